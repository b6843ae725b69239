/- Texts put together. -/
import Derived.Test.YthliomlmhfjhnaaGreatZp44
namespace Go.Proofs.YthliomlmhfjhnaaGreat
set_option maxRecDepth 20000
set_option maxHeartbeats 16000000
open Go.ChangeShapes Go.WideShapes Go.ChangeAt Go.RowKit
set_option linter.unusedVariables false
set_option linter.unusedSimpArgs false
theorem Qc7 (h v u t n:Int)(D DD XD UD VD ne ml Lc lN:Nat)(La:Option Addr)(E L N O:SL)(Y U Dn:Nat→Nat→SL)(m:ModV)(w:World)(RES:Int)(e1:v*(D:Int)=(VD:Int))(e2:(D:Int)*(D:Int)=(DD:Int))(e3:(ne:Int)*(D:Int)=(XD:Int))(e4:u*(D:Int)=(UD:Int))(e5:(D:Int)*u=(UD:Int))(xlt:1<(ne:Int))(n1:ne≤4)
  (bD:D≤8) (bVD:VD≤1000) (bDD:DD≤1000) (bXD:XD≤1000) (bUD:UD≤1000) (hL:L=⟨La,ml,Lc⟩) (hM:Qad w E L N O Y U Dn m) (hmx:ml≤9223372036854775807)
  (k10:∀ W,Calls Tryz.prog 36 #[.agg #[I4 (D:Int),I4 h,I4 (lN:Int),I4 v,I4 u,I4 (ne:Int),I4 t,I4 n]] W fun e w'=>e=.returned (.bool true)∧Below W.heap.size W w') (hgood:AllR lN D DD XD UD VD ne m→RES=0) (hbad:¬AllR lN D DD XD UD VD ne m→RES=21)
  (p0:P0 lN D VD m) (t0:((ml:Int)==(lN:Int))=true) (t1:((E.n:Int)==(VD:Int))=true) (t2:((N.n:Int)==(D:Int))=true) (t3:((O.n:Int)==(VD:Int))=true) :
  Calls Tryz.prog 50 #[.agg #[I4 (D:Int),I4 h,I4 (lN:Int),I4 v,I4 u,I4 (ne:Int),I4 t,I4 n,.slice E.a E.n E.c,.slice La ml Lc,.slice N.a N.n N.c,.slice O.a O.n O.c]] w fun e w'=>e=.returned (I4 RES)∧Below w.heap.size w w':=by
 have eml:m.ln=ml:=by have:=hM.len;rw[hL] at this;exact this.symm
 have hb:=bNw (bNw (bS w) (.cells #[I4 (D:Int),I4 h,I4 (lN:Int),I4 v,I4 u,I4 (ne:Int),I4 t,I4 n,.slice E.a E.n E.c,.slice La ml Lc,.slice N.a N.n N.c,.slice O.a O.n O.c] 27)) (.cells #[I4 (D:Int),I4 h,I4 (lN:Int),I4 v,I4 u,I4 (ne:Int),I4 t,I4 n] 23)
 have qb:Blk 27 ((w.alloc (.cells #[I4 (D:Int),I4 h,I4 (lN:Int),I4 v,I4 u,I4 (ne:Int),I4 t,I4 n,.slice E.a E.n E.c,.slice La ml Lc,.slice N.a N.n N.c,.slice O.a O.n O.c] 27)).alloc (.cells #[I4 (D:Int),I4 h,I4 (lN:Int),I4 v,I4 u,I4 (ne:Int),I4 t,I4 n] 23)) w.heap.size #[I4 (D:Int),I4 h,I4 (lN:Int),I4 v,I4 u,I4 (ne:Int),I4 t,I4 n,.slice E.a E.n E.c,.slice La ml Lc,.slice N.a N.n N.c,.slice O.a O.n O.c]:=(Blk.new 27 w _).kept (bNw bR _)
 have qc:Blk 23 ((w.alloc (.cells #[I4 (D:Int),I4 h,I4 (lN:Int),I4 v,I4 u,I4 (ne:Int),I4 t,I4 n,.slice E.a E.n E.c,.slice La ml Lc,.slice N.a N.n N.c,.slice O.a O.n O.c] 27)).alloc (.cells #[I4 (D:Int),I4 h,I4 (lN:Int),I4 v,I4 u,I4 (ne:Int),I4 t,I4 n] 23)) (w.heap.size+1) #[I4 (D:Int),I4 h,I4 (lN:Int),I4 v,I4 u,I4 (ne:Int),I4 t,I4 n]:=Blk.new_at 23 (w.alloc _) _ _ (by simp)
 obtain⟨a0,a1,a2,a3,a4,a5,a6,a7,a8,a9,a10,a11⟩:=qb.c12
 obtain⟨b0,b1,b2,b3,b4,b5,b6,b7⟩:=qc.cfg
 have HH:=hdn (And.intro p0 (And.intro hM eml))
 have HL:=hdn (show L.a=La by rw[hL])
 have HG:=hdn (And.intro hgood hbad)
 clear p0 hM eml hL hgood hbad
 go_enter Tryz.func50,Tryz.ntmps50
 go_wp2_with (first
  | (go_at_call 36;refine (k10 _).mono ?_;rintro e W1 ⟨rfl,h1⟩;replace qb:=qb.kept h1;replace qc:=qc.kept h1;replace hb:=bTn hb h1;clear h1 a0 a1 a2 a3 a4 a5 a6 a7 a8 a9 a10 a11 b0 b1 b2 b3 b4 b5 b6 b7;obtain⟨a0,a1,a2,a3,a4,a5,a6,a7,a8,a9,a10,a11⟩:=qb.c12;obtain⟨b0,b1,b2,b3,b4,b5,b6,b7⟩:=qc.cfg))
 have HB0:=hdn (And.intro hb (And.intro qb qc))
 clear hb a0 a1 a2 a3 a4 a5 a6 a7 a8 a9 a10 a11 b0 b1 b2 b3 b4 b5 b6 b7 t0 t1 t2 t3 qb qc
 go_loopw [5,7,8,9] (fun vb i _ _ wr=>∃ (b:Bool) (k:Nat),k≤ml∧vb=.bool b∧i=I4 k∧Below W1.heap.size W1 wr∧(b=true→∀ j,j<k→Ly D DD XD ne m j∧∀ j',j'<ne→Nt UD m j j')∧(b=false→¬AllR lN D DD XD UD VD ne m)) (fun _ i _ _ _=>ml-(intOf i).toNat)
 case atStart=>exact⟨true,0,Nat.zero_le _,rfl,rfl,Below.refl _ _,(fun _ j hj=>absurd hj (by omega)),(fun h=>by cases h)⟩
 case round =>
  obtain⟨b,k,hk,rfl,rfl,hbr,hgd,hbd⟩:=hrel
  obtain⟨WR,eWR⟩:∃ WR,WR=wr:=⟨_,rfl⟩
  subst eWR
  obtain⟨hb,qb,qc⟩:=HB0.out
  have hbw:=bTn hb hbr
  have qbr:=qb.kept hbr
  have qcr:=qc.kept hbr
  obtain⟨a0,a1,a2,a3,a4,a5,a6,a7,a8,a9,a10,a11⟩:=qbr.c12
  obtain⟨b0,b1,b2,b3,b4,b5,b6,b7⟩:=qcr.cfg
  cases b with
  | false =>
   have RB:=hdn (HG.out.2 (hbd rfl))
   clear hgd hbd hb qb qc hbr qbr qcr
   by_cases hlt:k<ml
   ·have hz':decide ((k:Int)<(ml:Int))=true:=by simp;omega
    have hz2:(k:Int)<(ml:Int):=by omega
    go_wp2
    go_ret
    exact⟨by rw[RB.out];rfl,hbw⟩
   ·have hz':decide ((k:Int)<(ml:Int))=false:=by simp;omega
    have hz2:¬(k:Int)<(ml:Int):=by omega
    go_wp2
    go_ret
    exact⟨by rw[RB.out];rfl,hbw⟩
  | true =>
  by_cases hlt:k<ml
  ·have hz':decide ((k:Int)<(ml:Int))=true:=by simp;omega
   have hz2:(k:Int)<(ml:Int):=by omega
   obtain⟨P0',hM',eml'⟩:=HH.out
   have hMr:=hM'.below hbw
   have hkm:k<m.ln:=by omega
   obtain⟨x0,hx0⟩:=hMr.some_ (by omega)
   obtain rfl:La=some x0:=by rw[←hx0,HL.out]
   have LA:=hMr.lay k hkm
   obtain⟨P,eP,p0,p1,p2,p3,p4,p5,p6,p7,p8⟩:=Qgb (fun j hj=>hMr.cell x0 hx0 k hkm j hj)
   obtain⟨A,eA⟩:∃ A,WR.alloc (.cells #[.slice (Y k 0).a (Y k 0).n (Y k 0).c,.slice (Y k 1).a (Y k 1).n (Y k 1).c,.slice (Y k 2).a (Y k 2).n (Y k 2).c,.slice (Y k 3).a (Y k 3).n (Y k 3).c,.slice (Y k 4).a (Y k 4).n (Y k 4).c,.slice (Y k 5).a (Y k 5).n (Y k 5).c,.slice (Y k 6).a (Y k 6).n (Y k 6).c,.slice (Y k 7).a (Y k 7).n (Y k 7).c,.slice (Y k 8).a (Y k 8).n (Y k 8).c] 65)=A:=⟨_,rfl⟩
   have bA:Below WR.heap.size WR A:=eA ▸ bNw bR _
   have gA:Blk 65 A WR.heap.size #[.slice (Y k 0).a (Y k 0).n (Y k 0).c,.slice (Y k 1).a (Y k 1).n (Y k 1).c,.slice (Y k 2).a (Y k 2).n (Y k 2).c,.slice (Y k 3).a (Y k 3).n (Y k 3).c,.slice (Y k 4).a (Y k 4).n (Y k 4).c,.slice (Y k 5).a (Y k 5).n (Y k 5).c,.slice (Y k 6).a (Y k 6).n (Y k 6).c,.slice (Y k 7).a (Y k 7).n (Y k 7).c,.slice (Y k 8).a (Y k 8).n (Y k 8).c]:=eA ▸ Blk.new 65 WR _
   have qbA:=qbr.kept bA
   have qcA:=qcr.kept bA
   obtain⟨d0,d1,d2,d3,d4,d5,d6,d7⟩:=qcA.cfg
   have c0:=gA.cell 0 rfl
   have c1:=gA.cell 1 rfl
   have c2:=gA.cell 2 rfl
   have c3:=gA.cell 3 rfl
   have c4:=gA.cell 4 rfl
   have c5:=gA.cell 5 rfl
   have c6:=gA.cell 6 rfl
   have c7:=gA.cell 7 rfl
   have c8:=gA.cell 8 rfl
   have hbA:=bTn hbr bA
   have HX:=hdn (And.intro hgd (And.intro hbA (And.intro qbA (And.intro qcA (And.intro gA (LA.below bA))))))
   clear hMr hM' P0' eml' hgd hbd hb qb qc hbr qbr qcr hbw qbA qcA hx0 gA bA hbA
   have LYK:Hid (lyC D DD XD (ne:Int) (Y k)=lyC D DD XD (ne:Int) (Y k)∧(bk (lyC D DD XD (ne:Int) (Y k)) 8=true→Ly D DD XD ne m k∧(Y k 7).n=ne∧(Y k 8).n=ne)):=⟨rfl,fun hb=>by
    have H:=Qhl.1 hb
    have y0:((Y k 0).n:Int)=(D:Int):=(by simpa [lyC] using H 0 (by omega))
    have y1:((Y k 1).n:Int)=(DD:Int):=(by simpa [lyC] using H 1 (by omega))
    have y2:((Y k 2).n:Int)=(DD:Int):=(by simpa [lyC] using H 2 (by omega))
    have y3:((Y k 3).n:Int)=(DD:Int):=(by simpa [lyC] using H 3 (by omega))
    have y4:((Y k 4).n:Int)=(DD:Int):=(by simpa [lyC] using H 4 (by omega))
    have y5:((Y k 5).n:Int)=(D:Int):=(by simpa [lyC] using H 5 (by omega))
    have y6:((Y k 6).n:Int)=(XD:Int):=(by simpa [lyC] using H 6 (by omega))
    have y7:((Y k 7).n:Int)=(ne:Int):=(by simpa [lyC] using H 7 (by omega))
    have y8:((Y k 8).n:Int)=(ne:Int):=(by simpa [lyC] using H 8 (by omega))
    have z0:=(LA.f 0 (by omega)).reads.len
    have z1:=(LA.f 1 (by omega)).reads.len
    have z2:=(LA.f 2 (by omega)).reads.len
    have z3:=(LA.f 3 (by omega)).reads.len
    have z4:=(LA.f 4 (by omega)).reads.len
    have z5:=(LA.f 5 (by omega)).reads.len
    have z6:=(LA.f 6 (by omega)).reads.len
    have z7:=LA.u.len
    have z8:=LA.d.len
    refine⟨⟨fun r hr=>?_,by omega,by omega⟩,by omega,by omega⟩
    rcases l7 (show r<7 by omega) with rfl|rfl|rfl|rfl|rfl|rfl|rfl
    ·show _=D;omega
    ·show _=DD;omega
    ·show _=DD;omega
    ·show _=DD;omega
    ·show _=DD;omega
    ·show _=D;omega
    ·show _=XD;omega⟩
   have LNO:Hid (bk (lyC D DD XD (ne:Int) (Y k)) 8=false→¬AllR lN D DD XD UD VD ne m):=fun hb a=>by
    have:=HH.out.2.2
    have LY:=(a.2 k (by omega)).1
    have f0:(m.f k 0).length=D:=LY.1 0 (by omega)
    have f1:(m.f k 1).length=DD:=LY.1 1 (by omega)
    have f2:(m.f k 2).length=DD:=LY.1 2 (by omega)
    have f3:(m.f k 3).length=DD:=LY.1 3 (by omega)
    have f4:(m.f k 4).length=DD:=LY.1 4 (by omega)
    have f5:(m.f k 5).length=D:=LY.1 5 (by omega)
    have f6:(m.f k 6).length=XD:=LY.1 6 (by omega)
    have f7:=LY.2.1
    have f8:=LY.2.2
    have z0:=(LA.f 0 (by omega)).reads.len
    have z1:=(LA.f 1 (by omega)).reads.len
    have z2:=(LA.f 2 (by omega)).reads.len
    have z3:=(LA.f 3 (by omega)).reads.len
    have z4:=(LA.f 4 (by omega)).reads.len
    have z5:=(LA.f 5 (by omega)).reads.len
    have z6:=(LA.f 6 (by omega)).reads.len
    have z7:=LA.u.len
    have z8:=LA.d.len
    have:bk (lyC D DD XD (ne:Int) (Y k)) 8=true:=Qhl.2 fun i hi=>by
     rcases l9 (show i<9 by omega) with rfl|rfl|rfl|rfl|rfl|rfl|rfl|rfl|rfl<;>(simp[lyC];omega)
    rw[hb] at this
    cases this
   clear LA
   have HX2:=HX.out
   go_upto_region 11 with fail
   clear c0 c1 c2 c3 c4 c5 c6 c7 c8 d0 d1 d2 d3 d4 d5 d6 d7 a0 a1 a2 a3 a4 a5 a6 a7 a8 a9 a10 a11 b0 b1 b2 b3 b4 b5 b6 b7 p0 p1 p2 p3 p4 p5 p6 p7 p8
   refine QdS h (lN:Int) v u (ne:Int) t n D DD XD (ne:Int) (w.heap.size+1) WR.heap.size (Y k) (lyC D DD XD (ne:Int) (Y k)) SL.nought SL.nought SL.nought rfl (fun w=>by go_simp;exact Qau (by omega) (by omega)) (fun w=>by go_simp;exact Qau (by omega) (by omega)) ⟨rfl,rfl,rfl,rfl,rfl,rfl,rfl,rfl,rfl⟩ HX2.2.2.2.2.1 HX2.2.2.2.1 rfl rfl rfl rfl (Nat.le_of_ble_eq_true rfl) ?_
   intro a wA hs hd hkp v5 eA'
   have eA2:=eA'.symm
   subst eA2
   obtain⟨f,ef,ep⟩:=fPy [68,69,70,71,72,73,74,75,76,77,78,79,80,81,82,83,84,85,86,87,88,89,90,91,92,93,94,95,96,97,98,99,100,101,102,103,104,105,106,107,108,109,110,111,112,113,114,115,116,117,118,119,120,121,122,123,124,125,126,127,128,129,130,131,132,133,134,135,136,137,138,139,5] hs hd (fun s h'=>hkp s (Qk9 h'))
   simp only[ef] at v5
   simp only[List.foldl,v5,Act.put,List.setIfInBounds_toArray,List.set_cons_succ,List.set_cons_zero] at ep
   clear hs hd hkp v5 HX2 ef
   subst ep
   obtain⟨BB,eBB⟩:∃ BB,bk (lyC D DD XD (ne:Int) (Y k)) 8=BB:=⟨_,rfl⟩
   rw[eBB] at LYK LNO ⊢
   go_wp2
   clear eA
   obtain⟨lb,elb⟩:∃ lb,WR.heap.size=lb:=⟨_,rfl⟩
   rw[elb] at HX ⊢
   clear elb eBB
   go_loopw [5,9] (fun vb j wr=>∃ (b:Bool) (q:Nat),q≤ne∧vb=.bool b∧j=I4 q∧Below A.heap.size A wr∧(b=true→BB=true∧∀ j',j'<q→Nt UD m k j')∧(b=false→¬AllR lN D DD XD UD VD ne m)) (fun _ j _=>ne-(intOf j).toNat)
   case atStart=>exact⟨BB,0,Nat.zero_le _,rfl,rfl,Below.refl _ _,(fun h=>⟨h,fun j hj=>absurd hj (by omega)⟩),LNO.out⟩
   case round =>
    obtain⟨b,q,hq,rfl,rfl,hbq,hgd2,hbd2⟩:=hrel
    obtain⟨hgd,hbA,qbA,qcA,gA,LA⟩:=HX.out
    have hbF:=bTn hbA hbq
    cases b with
    | false =>
     have BAD:=hdn (hbd2 rfl)
     clear hgd hbA qbA qcA gA LA hgd2 hbd2 hbq
     by_cases hl2:q<ne
     ·have hz3:decide ((q:Int)<(ne:Int))=true:=by simp;omega
      have hz4:(q:Int)<(ne:Int):=by omega
      go_wp2
      go_roundw
      case rel=>exact⟨false,k+1,by omega,rfl,by go_num,hbF,(fun h=>by cases h),fun _=>BAD.out⟩
      case measure=>simp[intOf];omega
     ·have hz3:decide ((q:Int)<(ne:Int))=false:=by simp;omega
      have hz4:¬(q:Int)<(ne:Int):=by omega
      go_wp2
      go_roundw
      case rel=>exact⟨false,k+1,by omega,rfl,by go_num,hbF,(fun h=>by cases h),fun _=>BAD.out⟩
      case measure=>simp[intOf];omega
    | true =>
    obtain⟨hBB,hgd2⟩:=hgd2 rfl
    have LEN:=hdn (LYK.out.2 hBB)
    have hgd3:BB=true:=hBB
    clear hBB
    have HBB:=hdn hgd3
    clear hgd3
    by_cases hl2:q<ne
    ·have hz3:decide ((q:Int)<(ne:Int))=true:=by simp;omega
     have hz4:(q:Int)<(ne:Int):=by omega
     have LAq:=LA.below hbq
     have e7:=LEN.out.2.1
     have e8:=LEN.out.2.2
     obtain⟨x7,hx7⟩:=LAq.u.some_ (by have:=LAq.u.len;omega)
     obtain⟨x8,hx8⟩:=LAq.d.some_ (by have:=LAq.d.len;omega)
     have g:=gA.kept hbq
     rw[hx7,hx8,e7,e8] at g
     have c7:=g.cell 7 rfl
     have c8:=g.cell 8 rfl
     obtain⟨d0,d1,d2,d3,d4,d5,d6,d7⟩:=(qcA.kept hbq).cfg
     have cU:wr.cell? (x7.add q)=some (.slice (U k q).a (U k q).n (U k q).c):=LAq.u.cell x7 hx7 q (by have:=LAq.u.len;omega)
     have cD:wr.cell? (x8.add q)=some (.slice (Dn k q).a (Dn k q).n (Dn k q).c):=LAq.d.cell x8 hx8 q (by have:=LAq.d.len;omega)
     have rU:=(LAq.u.row q (by have:=LAq.u.len;omega)).reads.len
     have rD:=(LAq.d.row q (by have:=LAq.d.len;omega)).reads.len
     have HR:=hdn (And.intro rU (And.intro rD hgd2))
     clear LAq LA e7 e8 hx7 hx8 g hgd hbA qbA qcA gA hgd2 hbd2 rU rD
     cases s0:(((U k q).n:Int)==(UD:Int)) with
     | false =>
      have BAD:Hid (¬AllR lN D DD XD UD VD ne m):=fun a=>by have:=HH.out.2.2;have:=((a.2 k (by omega)).2 q hl2).1;have:=HR.out.1;have g:((U k q).n:Int)≠(UD:Int):=(by simpa using s0);omega
      go_wp2
      go_quiet (fail)
      go_wp2
      go_roundw
      case rel=>exact⟨false,q+1,by omega,rfl,by go_num,bDr hbq ⟨_,rfl⟩,(fun h=>by cases h),fun _=>BAD.out⟩
      case measure=>simp[intOf];omega
     | true =>
     cases s1:(((Dn k q).n:Int)==(UD:Int)) with
     | false =>
      have BAD:Hid (¬AllR lN D DD XD UD VD ne m):=fun a=>by have:=HH.out.2.2;have:=((a.2 k (by omega)).2 q hl2).2;have:=HR.out.2.1;have g:((Dn k q).n:Int)≠(UD:Int):=(by simpa using s1);omega
      go_wp2
      go_quiet (fail)
      go_wp2
      go_roundw
      case rel=>exact⟨false,q+1,by omega,rfl,by go_num,bDr hbq ⟨_,rfl⟩,(fun h=>by cases h),fun _=>BAD.out⟩
      case measure=>simp[intOf];omega
     | true =>
      have NTQ:Hid (Nt UD m k q):=⟨by have:=HR.out.1;have g:((U k q).n:Int)=(UD:Int):=(by simpa using s0);omega,by have:=HR.out.2.1;have g:((Dn k q).n:Int)=(UD:Int):=(by simpa using s1);omega⟩
      go_wp2
      go_quiet (fail)
      go_wp2
      go_roundw
      case rel=>exact⟨true,q+1,by omega,rfl,by go_num,bDr hbq ⟨_,rfl⟩,(fun _=>⟨HBB.out,fun j hj=>(Decidable.em (j=q)).elim (fun e=>by rw[e];exact NTQ.out) (fun e=>HR.out.2.2 j (by omega))⟩),(fun h=>by cases h)⟩
      case measure=>simp[intOf];omega
    ·have hz3:decide ((q:Int)<(ne:Int))=false:=by simp;omega
     have hz4:¬(q:Int)<(ne:Int):=by omega
     have eq:q=ne:=by omega
     have GD:=hdn (And.intro hgd (And.intro hgd2 eq))
     clear hgd hbA qbA qcA gA LA hgd2 hbd2 hbq eq
     go_wp2
     go_roundw
     case rel=>exact⟨true,k+1,by omega,rfl,by go_num,hbF,(fun _ j hj=>(Decidable.em (j=k)).elim (fun e=>by rw[e];exact⟨LEN.out.1,fun j' hj'=>GD.out.2.1 j' (by have:=GD.out.2.2;omega)⟩) (fun e=>GD.out.1 (by first|rfl|trivial) j (by omega))),(fun h=>by cases h)⟩
     case measure=>simp[intOf];omega
  ·have hz':decide ((k:Int)<(ml:Int))=false:=by simp;omega
   have hz2:¬(k:Int)<(ml:Int):=by omega
   have RG:=hdn (HG.out.1 ⟨HH.out.1,fun i hi=>hgd rfl i (by have:=HH.out.2.2;omega)⟩)
   clear hgd hbd hb qb qc hbr qbr qcr
   go_wp2
   go_ret
   exact⟨by rw[RG.out];rfl,hbw⟩
theorem QfM (h v u t n:Int)(D DD XD UD VD ne ml Lc lN:Nat)(La:Option Addr)(E L N O:SL)(Y U Dn:Nat→Nat→SL)(m:ModV)(w:World)(RES:Int)(e1:v*(D:Int)=(VD:Int))(e2:(D:Int)*(D:Int)=(DD:Int))(e3:(ne:Int)*(D:Int)=(XD:Int))(e4:u*(D:Int)=(UD:Int))(e5:(D:Int)*u=(UD:Int))(xlt:1<(ne:Int))(n1:ne≤4)
  (bD:D≤8) (bVD:VD≤1000) (bDD:DD≤1000) (bXD:XD≤1000) (bUD:UD≤1000) (hL:L=⟨La,ml,Lc⟩) (hM:Qad w E L N O Y U Dn m) (hmx:ml≤9223372036854775807)
  (k10:∀ W,Calls Tryz.prog 36 #[.agg #[I4 (D:Int),I4 h,I4 (lN:Int),I4 v,I4 u,I4 (ne:Int),I4 t,I4 n]] W fun e w'=>e=.returned (.bool true)∧Bw W w') (hgood:AllR lN D DD XD UD VD ne m→RES=0) (hbad:¬AllR lN D DD XD UD VD ne m→RES=21) :
  Calls Tryz.prog 50 #[.agg #[I4 (D:Int),I4 h,I4 (lN:Int),I4 v,I4 u,I4 (ne:Int),I4 t,I4 n,E.w,.slice La ml Lc,N.w,O.w]] w fun e w'=>e=.returned (I4 RES)∧Bw w w':=by
 have main:=Qc7 h v u t n D DD XD UD VD ne ml Lc lN La E L N O Y U Dn m w RES e1 e2 e3 e4 e5 xlt n1 bD bVD bDD bXD bUD hL hM hmx k10 hgood hbad
 have eml:m.ln=ml:=by have:=hM.len;rw[hL] at this;exact this.symm
 have hb:=bNw (bNw (bS w) (.cells #[I4 (D:Int),I4 h,I4 (lN:Int),I4 v,I4 u,I4 (ne:Int),I4 t,I4 n,E.w,.slice La ml Lc,N.w,O.w] 27)) (.cells #[I4 (D:Int),I4 h,I4 (lN:Int),I4 v,I4 u,I4 (ne:Int),I4 t,I4 n] 23)
 have qb:Blk 27 ((w.alloc (.cells #[I4 (D:Int),I4 h,I4 (lN:Int),I4 v,I4 u,I4 (ne:Int),I4 t,I4 n,E.w,.slice La ml Lc,N.w,O.w] 27)).alloc (.cells #[I4 (D:Int),I4 h,I4 (lN:Int),I4 v,I4 u,I4 (ne:Int),I4 t,I4 n] 23)) w.heap.size #[I4 (D:Int),I4 h,I4 (lN:Int),I4 v,I4 u,I4 (ne:Int),I4 t,I4 n,E.w,.slice La ml Lc,N.w,O.w]:=(Blk.new 27 w _).kept (bNw bR _)
 have qc:Blk 23 ((w.alloc (.cells #[I4 (D:Int),I4 h,I4 (lN:Int),I4 v,I4 u,I4 (ne:Int),I4 t,I4 n,E.w,.slice La ml Lc,N.w,O.w] 27)).alloc (.cells #[I4 (D:Int),I4 h,I4 (lN:Int),I4 v,I4 u,I4 (ne:Int),I4 t,I4 n] 23)) (w.heap.size+1) #[I4 (D:Int),I4 h,I4 (lN:Int),I4 v,I4 u,I4 (ne:Int),I4 t,I4 n]:=Blk.new_at 23 (w.alloc _) _ _ (by simp)
 obtain⟨a0,a1,a2,a3,a4,a5,a6,a7,a8,a9,a10,a11⟩:=qb.c12
 obtain⟨b0,b1,b2,b3,b4,b5,b6,b7⟩:=qc.cfg
 cases t0:((ml:Int)==(lN:Int)) with
 | false =>
  clear main
  have RB:=hdn (hbad (fun a=>by have q:=a.1.1;have:(ml:Int)≠(lN:Int):=(by simpa using t0);omega))
  clear hbad hgood hM hL eml
  by_cases hz:0<ml
  ·have hz':decide ((0:Int)<(ml:Int))=true:=by simp;omega
   have hz2:(0:Int)<(ml:Int):=by omega
   go_enter Tryz.func50,Tryz.ntmps50
   go_wp2_with (first
    | (go_at_call 36;refine (k10 _).mono ?_;rintro e W1 ⟨rfl,h1⟩;replace qb:=qb.kept h1;replace qc:=qc.kept h1;replace hb:=bTn hb h1;clear h1 a0 a1 a2 a3 a4 a5 a6 a7 a8 a9 a10 a11 b0 b1 b2 b3 b4 b5 b6 b7;obtain⟨a0,a1,a2,a3,a4,a5,a6,a7,a8,a9,a10,a11⟩:=qb.c12;obtain⟨b0,b1,b2,b3,b4,b5,b6,b7⟩:=qc.cfg))
   refine wp_loop_rounds 1 ?_
   rw[rounds_succ]
   go_wp2
   go_ret
   exact⟨by rw[RB.out];rfl,hb⟩
  ·have hz':decide ((0:Int)<(ml:Int))=false:=by simp;omega
   have hz2:¬(0:Int)<(ml:Int):=by omega
   go_enter Tryz.func50,Tryz.ntmps50
   go_wp2_with (first
    | (go_at_call 36;refine (k10 _).mono ?_;rintro e W1 ⟨rfl,h1⟩;replace qb:=qb.kept h1;replace qc:=qc.kept h1;replace hb:=bTn hb h1;clear h1 a0 a1 a2 a3 a4 a5 a6 a7 a8 a9 a10 a11 b0 b1 b2 b3 b4 b5 b6 b7;obtain⟨a0,a1,a2,a3,a4,a5,a6,a7,a8,a9,a10,a11⟩:=qb.c12;obtain⟨b0,b1,b2,b3,b4,b5,b6,b7⟩:=qc.cfg))
   refine wp_loop_rounds 1 ?_
   rw[rounds_succ]
   go_wp2
   go_ret
   exact⟨by rw[RB.out];rfl,hb⟩
 | true =>
 cases t1:((E.n:Int)==(VD:Int)) with
 | false =>
  clear main
  have RB:=hdn (hbad (fun a=>by have:=a.1.2.1;have:=hM.e.reads.len;have:(E.n:Int)≠(VD:Int):=(by simpa using t1);omega))
  clear hbad hgood hM hL eml
  by_cases hz:0<ml
  ·have hz':decide ((0:Int)<(ml:Int))=true:=by simp;omega
   have hz2:(0:Int)<(ml:Int):=by omega
   go_enter Tryz.func50,Tryz.ntmps50
   go_wp2_with (first
    | (go_at_call 36;refine (k10 _).mono ?_;rintro e W1 ⟨rfl,h1⟩;replace qb:=qb.kept h1;replace qc:=qc.kept h1;replace hb:=bTn hb h1;clear h1 a0 a1 a2 a3 a4 a5 a6 a7 a8 a9 a10 a11 b0 b1 b2 b3 b4 b5 b6 b7;obtain⟨a0,a1,a2,a3,a4,a5,a6,a7,a8,a9,a10,a11⟩:=qb.c12;obtain⟨b0,b1,b2,b3,b4,b5,b6,b7⟩:=qc.cfg))
   refine wp_loop_rounds 1 ?_
   rw[rounds_succ]
   go_wp2
   go_ret
   exact⟨by rw[RB.out];rfl,hb⟩
  ·have hz':decide ((0:Int)<(ml:Int))=false:=by simp;omega
   have hz2:¬(0:Int)<(ml:Int):=by omega
   go_enter Tryz.func50,Tryz.ntmps50
   go_wp2_with (first
    | (go_at_call 36;refine (k10 _).mono ?_;rintro e W1 ⟨rfl,h1⟩;replace qb:=qb.kept h1;replace qc:=qc.kept h1;replace hb:=bTn hb h1;clear h1 a0 a1 a2 a3 a4 a5 a6 a7 a8 a9 a10 a11 b0 b1 b2 b3 b4 b5 b6 b7;obtain⟨a0,a1,a2,a3,a4,a5,a6,a7,a8,a9,a10,a11⟩:=qb.c12;obtain⟨b0,b1,b2,b3,b4,b5,b6,b7⟩:=qc.cfg))
   refine wp_loop_rounds 1 ?_
   rw[rounds_succ]
   go_wp2
   go_ret
   exact⟨by rw[RB.out];rfl,hb⟩
 | true =>
 cases t2:((N.n:Int)==(D:Int)) with
 | false =>
  clear main
  have RB:=hdn (hbad (fun a=>by have:=a.1.2.2.1;have:=hM.nm.reads.len;have:(N.n:Int)≠(D:Int):=(by simpa using t2);omega))
  clear hbad hgood hM hL eml
  by_cases hz:0<ml
  ·have hz':decide ((0:Int)<(ml:Int))=true:=by simp;omega
   have hz2:(0:Int)<(ml:Int):=by omega
   go_enter Tryz.func50,Tryz.ntmps50
   go_wp2_with (first
    | (go_at_call 36;refine (k10 _).mono ?_;rintro e W1 ⟨rfl,h1⟩;replace qb:=qb.kept h1;replace qc:=qc.kept h1;replace hb:=bTn hb h1;clear h1 a0 a1 a2 a3 a4 a5 a6 a7 a8 a9 a10 a11 b0 b1 b2 b3 b4 b5 b6 b7;obtain⟨a0,a1,a2,a3,a4,a5,a6,a7,a8,a9,a10,a11⟩:=qb.c12;obtain⟨b0,b1,b2,b3,b4,b5,b6,b7⟩:=qc.cfg))
   refine wp_loop_rounds 1 ?_
   rw[rounds_succ]
   go_wp2
   go_ret
   exact⟨by rw[RB.out];rfl,hb⟩
  ·have hz':decide ((0:Int)<(ml:Int))=false:=by simp;omega
   have hz2:¬(0:Int)<(ml:Int):=by omega
   go_enter Tryz.func50,Tryz.ntmps50
   go_wp2_with (first
    | (go_at_call 36;refine (k10 _).mono ?_;rintro e W1 ⟨rfl,h1⟩;replace qb:=qb.kept h1;replace qc:=qc.kept h1;replace hb:=bTn hb h1;clear h1 a0 a1 a2 a3 a4 a5 a6 a7 a8 a9 a10 a11 b0 b1 b2 b3 b4 b5 b6 b7;obtain⟨a0,a1,a2,a3,a4,a5,a6,a7,a8,a9,a10,a11⟩:=qb.c12;obtain⟨b0,b1,b2,b3,b4,b5,b6,b7⟩:=qc.cfg))
   refine wp_loop_rounds 1 ?_
   rw[rounds_succ]
   go_wp2
   go_ret
   exact⟨by rw[RB.out];rfl,hb⟩
 | true =>
 cases t3:((O.n:Int)==(VD:Int)) with
 | false =>
  clear main
  have RB:=hdn (hbad (fun a=>by have:=a.1.2.2.2;have:=hM.o.reads.len;have:(O.n:Int)≠(VD:Int):=(by simpa using t3);omega))
  clear hbad hgood hM hL eml
  by_cases hz:0<ml
  ·have hz':decide ((0:Int)<(ml:Int))=true:=by simp;omega
   have hz2:(0:Int)<(ml:Int):=by omega
   go_enter Tryz.func50,Tryz.ntmps50
   go_wp2_with (first
    | (go_at_call 36;refine (k10 _).mono ?_;rintro e W1 ⟨rfl,h1⟩;replace qb:=qb.kept h1;replace qc:=qc.kept h1;replace hb:=bTn hb h1;clear h1 a0 a1 a2 a3 a4 a5 a6 a7 a8 a9 a10 a11 b0 b1 b2 b3 b4 b5 b6 b7;obtain⟨a0,a1,a2,a3,a4,a5,a6,a7,a8,a9,a10,a11⟩:=qb.c12;obtain⟨b0,b1,b2,b3,b4,b5,b6,b7⟩:=qc.cfg))
   refine wp_loop_rounds 1 ?_
   rw[rounds_succ]
   go_wp2
   go_ret
   exact⟨by rw[RB.out];rfl,hb⟩
  ·have hz':decide ((0:Int)<(ml:Int))=false:=by simp;omega
   have hz2:¬(0:Int)<(ml:Int):=by omega
   go_enter Tryz.func50,Tryz.ntmps50
   go_wp2_with (first
    | (go_at_call 36;refine (k10 _).mono ?_;rintro e W1 ⟨rfl,h1⟩;replace qb:=qb.kept h1;replace qc:=qc.kept h1;replace hb:=bTn hb h1;clear h1 a0 a1 a2 a3 a4 a5 a6 a7 a8 a9 a10 a11 b0 b1 b2 b3 b4 b5 b6 b7;obtain⟨a0,a1,a2,a3,a4,a5,a6,a7,a8,a9,a10,a11⟩:=qb.c12;obtain⟨b0,b1,b2,b3,b4,b5,b6,b7⟩:=qc.cfg))
   refine wp_loop_rounds 1 ?_
   rw[rounds_succ]
   go_wp2
   go_ret
   exact⟨by rw[RB.out];rfl,hb⟩
 | true =>
 exact main ⟨by have:(ml:Int)=(lN:Int):=(by simpa using t0);omega,by have:=hM.e.reads.len;have:(E.n:Int)=(VD:Int):=(by simpa using t1);omega,by have:=hM.nm.reads.len;have:(N.n:Int)=(D:Int):=(by simpa using t2);omega,by have:=hM.o.reads.len;have:(O.n:Int)=(VD:Int):=(by simpa using t3);omega⟩ t0 t1 t2 t3
theorem Qbl (d h l v u x t n:Int)(E L N O:SL)(Y U D:Nat→Nat→SL)(m:ModV)(w:World)(hM:Qad w E L N O Y U D m)(hmx:m.ln≤9223372036854775807) :
  Calls Tryz.prog 50 #[.agg #[I4 d,I4 h,I4 l,I4 v,I4 u,I4 x,I4 t,I4 n,E.w,L.w,N.w,O.w]] w fun e w'=>e=.returned (I4 (Qaf d h l v u x t n m))∧Bw w w':=by
 cases ok:okB d h l v u x t n with
 | false =>
  have:Qaf d h l v u x t n m=20:=by unfold Qaf;rw[ok];rfl
  rw[this]
  exact Qh8 d h l v u x t n E L N O ok w
 | true =>
  have dm:=Qb9 ok
  obtain⟨good,bad⟩:=Qls ok m
  have k10:=Qat d h l v u x t n
  simp only[ok] at k10
  have hx:x=0∨2≤x:=by
   unfold okB Qak at ok
   simp only[Bool.and_eq_true,decide_eq_true_eq] at ok
   omega
  have hl:L=⟨L.a,L.n,L.c⟩:=rfl
  have hLn:=hM.len
  rcases hx with hx|hx
  ·have n1:netsN x=1:=by unfold netsN;rw[hx];rfl
   rw[n1] at good bad
   have key:=QgJ h v u x t n d.toNat (d*d).toNat (x*d).toNat (u*d).toNat (v*d).toNat L.n L.c l.toNat L.a E L N O Y U D m w (Qaf d h l v u x t n m) (by rw[←dm.ed];exact dm.e1) (by rw[←dm.ed];exact dm.e2) (by rw[←dm.ed];exact dm.e3) (by rw[←dm.ed];exact dm.e4) (by rw[←dm.ed,Int.mul_comm];exact dm.e4) (by omega)
    dm.b0 dm.b1 dm.b2 dm.b3 dm.b4 hl hM (by omega) (by rw[←dm.ed,←dm.el];exact k10) good bad
   rw[←dm.ed,←dm.el] at key
   exact key
  ·have en:x=(netsN x:Int):=by have:=dm.en;omega
   have key:=QfM h v u t n d.toNat (d*d).toNat (x*d).toNat (u*d).toNat (v*d).toNat (netsN x) L.n L.c l.toNat L.a E L N O Y U D m w (Qaf d h l v u x t n m) (by rw[←dm.ed];exact dm.e1) (by rw[←dm.ed];exact dm.e2) (by rw[←dm.ed,←en];exact dm.e3) (by rw[←dm.ed];exact dm.e4) (by rw[←dm.ed,Int.mul_comm];exact dm.e4) (by omega) dm.n1
    dm.b0 dm.b1 dm.b2 dm.b3 dm.b4 hl hM (by omega) (by rw[←dm.ed,←dm.el,←en];exact k10) good bad
   rw[←dm.ed,←dm.el,←en] at key
   exact key
theorem QaD (M:Md)(E L N O:SL)(Y U D:Nat→Nat→SL)(La:SL)(Ya:Nat→Nat→SL)(w:World)(hM:Qad w E L N O Y U D M.m)(hA:AdAt w La Ya M.a)(hm:M.m.ln≤9223372036854775807)(ha:M.a.ln≤9223372036854775807) :
  Calls Tryz.prog 31 #[M.ag E L N O,M.ad La] w fun e w'=>e=.returned (I4 (badE M))∧Bw w w':=by
 have hb0:=bNw (bNw (bS w) (.cells (M.mc E L N O) 27)) (.cells (M.rc La) 30)
 have q1:Blk 27 ((w.alloc (.cells (M.mc E L N O) 27)).alloc (.cells (M.rc La) 30)) w.heap.size (M.mc E L N O):=(Blk.new 27 w _).kept (bNw bR _)
 have q2:Blk 30 ((w.alloc (.cells (M.mc E L N O) 27)).alloc (.cells (M.rc La) 30)) (w.heap.size+1) (M.rc La):=Blk.new_at 30 (w.alloc _) _ _ (by simp)
 have kc:=Qbl M.d M.h M.l M.v M.u M.x M.t M.n E L N O Y U D M.m _ (hM.below hb0) hm
 have ka:=fun (W:World) (hb:Bw w W)=>QeY M.r M.s M.d M.h M.l M.v M.u M.x M.t M.n La Ya M.a W (hA.below hb) ha
 unfold badE
 obtain⟨c,ec⟩:∃ c,Qaf M.d M.h M.l M.v M.u M.x M.t M.n M.m=c:=⟨_,rfl⟩
 obtain⟨d,ed⟩:∃ d,QbB M.r M.s M.d M.h M.l M.v M.u M.x M.t M.n M.a=d:=⟨_,rfl⟩
 rw[ec] at kc ⊢
 rw[ed] at ka ⊢
 clear ec ed hM hA
 have Q1:=hdn q1
 have Q2:=hdn q2
 clear q1 q2
 by_cases h1:c=0
 ·subst h1
  rw[if_pos rfl]
  by_cases h2:M.r=0
  ·have z:(M.r != 0)=false:=by simp[h2]
   rw[if_pos h2]
   clear h2
   go_enter Tryz.func31,Tryz.ntmps31
   go_wp2_with (go_at_call 50;refine kc.mono ?_;rintro e W1 ⟨rfl,h1⟩;have hb1:=bTn hb0 h1;obtain⟨s0,s1,s2⟩:=(Q2.out.kept h1).c3;clear h1 hb0)
   go_ret
   exact⟨rfl,hb1⟩
  ·have z:(M.r != 0)=true:=by simp[h2]
   rw[if_neg h2]
   clear h2
   go_enter Tryz.func31,Tryz.ntmps31
   go_wp2_with (first
    | (go_at_call 50;refine kc.mono ?_;rintro e W1 ⟨rfl,h1⟩;have hb1:=bTn hb0 h1;obtain⟨s0,s1,s2⟩:=(Q2.out.kept h1).c3;obtain⟨a0,a1,a2,a3,a4,a5,a6,a7,a8,a9,a10,a11⟩:=(Q1.out.kept h1).c12;clear h1 hb0)
    | (go_at_call 65;refine (ka _ hb1).mono ?_;rintro e W2 ⟨rfl,h2⟩;have hb2:=bTn hb1 h2;clear h2 hb1))
   go_ret
   exact⟨rfl,hb2⟩
 ·have z:(c==0)=false:=by simp[h1]
  rw[if_neg h1]
  clear h1
  go_enter Tryz.func31,Tryz.ntmps31
  go_wp2_with (go_at_call 50;refine kc.mono ?_;rintro e W1 ⟨rfl,h1⟩;have hb1:=bTn hb0 h1;obtain⟨s0,s1,s2⟩:=(Q2.out.kept h1).c3;clear h1 hb0)
  go_ret
  exact⟨rfl,hb1⟩
theorem Qgq (a b:Int)(h:b≤a)(ts:Array TypeId)(ty:TypeId)(w:World):(Builtin.min_ ts ty #[I4 a,I4 b]).run Tryz.prog w=.ok (I4 b) w:=by
 by_cases e:b<a
 ·simp[Builtin.min_,Builtin.min2,e]
 ·have:a=b:=by omega
  subst this
  simp[Builtin.min_,Builtin.min2]
def rnyD (i:Nat):Option Nat:=match i with|0=>some 29|1=>some 30|2=>some 31|3=>some 32|4=>some 33|5=>some 34|6=>some 35|7=>some 36|8=>some 37|9=>some 38|10=>some 39|11=>some 40|12=>some 41|13=>some 42|14=>some 43|15=>some 44|16=>some 45|17=>some 46|18=>some 28|19=>some 47|20=>some 48|21=>some 49|22=>some 13|23=>some 14|24=>some 15|_=>none
theorem Ql2:∀ i,i<25→∀ j,j<25→rnyD i=rnyD j→rnyD i≠none→i=j:=by decide
theorem QkN:∀ i,i<25→∀ d,rnyD i=some d→d<63:=by
 intro i hi d h
 have:∀ i,i<25→(rnyD i).all (fun d=>decide (d<63))=true:=by decide
 have:=this i hi
 rw[h] at this
 simpa using this
def rnyF (M:Md)(E L N O La:SL)(mb ab np tc rc sk kk wd dd:Nat)(ra sq:Option Addr)(xx:Addr)(tok:Int)(RA RB:World→Option Addr→Nat→Prop)(i:Nat)(q:Value)(w:World):Prop:=match i with
 | 0=>q=M.ag E L N O
 | 1=>q=M.ad La
 | 2=>q=.slice ra kk rc
 | 3=>q=.slice ra kk rc
 | 4=>q=I4 (kk:Int)
 | 5=>q=I4 (kk:Int)
 | 6=>q=Pt mb
 | 7=>q=.pointer (some ⟨mb,7,none⟩)
 | 8=>q=I4 M.n
 | 9=>q=I4 (sk:Int)
 | 10=>q=I4 (sk:Int)
 | 11=>q=.slice sq (kk-sk) (rc-sk)
 | 12=>q=I4 (kk:Int)
 | 13=>q=.slice (some xx) np tc
 | 14=>q=I4 (kk:Int)
 | 15=>q=.pointer (some (xx.add kk))
 | 16=>q=I4 tok
 | 17=>∃ ya yc yb yd,q=.tuple #[.slice ya wd yc,.slice yb dd yd,I4 0]∧RA w ya yc∧RB w yb yd
 | 18=>∃ ya yc yb yd,q=.tuple #[.slice ya wd yc,.slice yb dd yd,I4 0]∧RA w ya yc∧RB w yb yd
 | 19=>∃ ya yc,q=.slice ya wd yc∧RA w ya yc
 | 20=>∃ ya yc,q=.slice ya dd yc∧RB w ya yc
 | 21=>q=I4 0
 | 22=>∃ ya yc,q=.slice ya wd yc∧RA w ya yc
 | 23=>∃ ya yc,q=.slice ya dd yc∧RB w ya yc
 | 24=>q=I4 0
 | _=>True
theorem Qjc {M:Md}{E L N O La:SL}{mb ab np tc rc sk kk wd dd:Nat}{ra sq:Option Addr}{xx:Addr}{tok:Int}{RA RB:World→Option Addr→Nat→Prop}{i:Nat}{q:Value}{w w':World}(h:rnyF M E L N O La mb ab np tc rc sk kk wd dd ra sq xx tok RA RB i q w)(hb:Bw w w')(hRA:∀ {w w':World}{a:Option Addr}{c:Nat},RA w a c→Bw w w'→RA w' a c)(hRB:∀ {w w':World}{a:Option Addr}{c:Nat},RB w a c→Bw w w'→RB w' a c):rnyF M E L N O La mb ab np tc rc sk kk wd dd ra sq xx tok RA RB i q w':=by
 unfold rnyF at h ⊢
 split
 ·exact h
 ·exact h
 ·exact h
 ·exact h
 ·exact h
 ·exact h
 ·exact h
 ·exact h
 ·exact h
 ·exact h
 ·exact h
 ·exact h
 ·exact h
 ·exact h
 ·exact h
 ·exact h
 ·exact h
 ·obtain⟨a,c,b,d,h1,h2,h3⟩:=h;exact⟨a,c,b,d,h1,hRA h2 hb,hRB h3 hb⟩
 ·obtain⟨a,c,b,d,h1,h2,h3⟩:=h;exact⟨a,c,b,d,h1,hRA h2 hb,hRB h3 hb⟩
 ·obtain⟨a,c,h1,h2⟩:=h;exact⟨a,c,h1,hRA h2 hb⟩
 ·obtain⟨a,c,h1,h2⟩:=h;exact⟨a,c,h1,hRB h2 hb⟩
 ·exact h
 ·obtain⟨a,c,h1,h2⟩:=h;exact⟨a,c,h1,hRA h2 hb⟩
 ·obtain⟨a,c,h1,h2⟩:=h;exact⟨a,c,h1,hRB h2 hb⟩
 ·exact h
 ·trivial
theorem Qfm {id:Nat}{ops:Array Oper}{Q:Exit→Act→World→Prop}{a0:Act}{w0:World}(M:Md)(E L N O La:SL)(mb ab np tc rc sk kk wd dd:Nat)(ra sq:Option Addr)(xx:Addr)(tok:Int)(RA RB:World→Option Addr→Nat→Prop)(S:World→Prop)(hRA:∀ {w w':World}{a:Option Addr}{c:Nat},RA w a c→Bw w w'→RA w' a c)(hRB:∀ {w w':World}{a:Option Addr}{c:Nat},RB w a c→Bw w w'→RB w' a c)(hlow:lowB ops=true)(hsz:ops.size=25)
  (oo:OpS ops 0 29 (.load 27 (.tmp 3)) []∧OpS ops 1 30 (.load 30 (.tmp 4)) []∧OpS ops 2 31 (.move (.tmp 10)) []∧OpS ops 3 32 (.move (.tmp 10)) []∧OpS ops 4 33 (.call { callee:=.builtin .len,args:=#[.tmp 32],argTypes:=#[31] }) [3]∧OpS ops 5 34 (.move (.tmp 12)) []∧OpS ops 6 35 (.fieldAddr 27 (.tmp 3) 0) []∧OpS ops 7 36 (.fieldAddr 23 (.tmp 35) 7) [6]∧OpS ops 8 37 (.load 3 (.tmp 36)) [7]∧OpS ops 9 38 (.call { callee:=.value (.func 32),args:=#[.tmp 34,.tmp 37],argTypes:=#[3,3] }) [5,8]∧OpS ops 10 39 (.call { callee:=.builtin .min,args:=#[.tmp 33,.tmp 38],argTypes:=#[3,3] }) [4,9]∧OpS ops 11 40 (.slice 31 (.tmp 31) (some (.tmp 39)) none none) [2,10]∧OpS ops 12 41 (.move (.tmp 12)) []∧OpS ops 13 42 (.move (.tmp 2)) []∧OpS ops 14 43 (.move (.tmp 12)) []∧OpS ops 15 44 (.indexAddr 45 (.tmp 42) (.tmp 43)) [13,14]∧OpS ops 16 45 (.load 3 (.tmp 44)) [15]∧OpS ops 17 46 (.call { callee:=.value (.func 13),args:=#[.tmp 29,.tmp 30,.tmp 40,.tmp 41,.tmp 45],argTypes:=#[27,30,31,3,3] }) [0,1,11,12,16]∧OpS ops 18 28 (.move (.tmp 46)) [17]∧OpS ops 19 47 (.extract (.tmp 28) 0) [18]∧OpS ops 20 48 (.extract (.tmp 28) 1) [18]∧OpS ops 21 49 (.extract (.tmp 28) 2) [18]∧OpS ops 22 13 (.assign (.tmp 47)) [19]∧OpS ops 23 14 (.assign (.tmp 48)) [20]∧OpS ops 24 15 (.assign (.tmp 49)) [21])
  (hS:S w0.drew)
  (x0:∀ w,S w→(Instr.loadAt 27 (Pt mb)).run Tryz.prog w=.ok (M.ag E L N O) w)
  (x1:∀ w,S w→(Instr.loadAt 30 (Pt ab)).run Tryz.prog w=.ok (M.ad La) w)
  (x6:∀ w,(Instr.fieldAt 27 (Pt mb) 0).run Tryz.prog w=.ok (Pt mb) w)
  (x7:∀ w,(Instr.fieldAt 23 (Pt mb) 7).run Tryz.prog w=.ok (.pointer (some ⟨mb,7,none⟩)) w)
  (x8:∀ w,S w→(Instr.loadAt 3 (.pointer (some ⟨mb,7,none⟩))).run Tryz.prog w=.ok (I4 M.n) w)
  (x9:∀ w,S w→Calls Tryz.prog 32 #[I4 (kk:Int),I4 M.n] w fun e w'=>e=.returned (I4 (sk:Int))∧Bw w w'∧S w')
  (x11:∀ w,(Instr.sliceAt 31 (.slice ra kk rc) (some (I4 (sk:Int))) none none).run Tryz.prog w=.ok (.slice sq (kk-sk) (rc-sk)) w)
  (x15:∀ w,(Instr.indexAt 45 (.slice (some xx) np tc) (I4 (kk:Int))).run Tryz.prog w=.ok (.pointer (some (xx.add kk))) w)
  (x16:∀ w,S w→(Instr.loadAt 3 (.pointer (some (xx.add kk)))).run Tryz.prog w=.ok (I4 tok) w)
  (x17:∀ w,S w→Calls Tryz.prog 13 #[M.ag E L N O,M.ad La,.slice sq (kk-sk) (rc-sk),I4 (kk:Int),I4 tok] w fun e w'=>(∃ a c b d,e=.returned (.tuple #[.slice a wd c,.slice b dd d,I4 0])∧RA w' a c∧RB w' b d)∧Bw w w'∧S w')
  (u2:a0.tmps.getD 2 undef=.slice (some xx) np tc)
  (u3:a0.tmps.getD 3 undef=Pt mb)
  (u4:a0.tmps.getD 4 undef=Pt ab)
  (u10:a0.tmps.getD 10 undef=.slice ra kk rc)
  (u12:a0.tmps.getD 12 undef=I4 (kk:Int))
  (hmin:(sk:Int)≤(kk:Int))
  (hs:63≤a0.tmps.size)
  (fin:∀ a w,a.tmps.size=a0.tmps.size→a.defers=a0.defers→(∀ s,(∀ i,i<25→rnyD i≠some s)→a.tmps.getD s undef=a0.tmps.getD s undef)→S w→(∀ i d,i<25→rnyD i=some d→rnyF M E L N O La mb ab np tc rc sk kk wd dd ra sq xx tok RA RB i (a.tmps.getD d undef) w)→Q .normal a w):(Code.region id ops true).wp Tryz.prog Q a0 w0:=by
 obtain⟨o0,o1,o2,o3,o4,o5,o6,o7,o8,o9,o10,o11,o12,o13,o14,o15,o16,o17,o18,o19,o20,o21,o22,o23,o24⟩:=oo
 have r13:∀ args w,(callFunc 13 args).run Tryz.prog w=.ok (.enter 13 args) w:=eNo Tryz.func13 (by kernel_rfl) rfl
 have r32:∀ args w,(callFunc 32 args).run Tryz.prog w=.ok (.enter 32 args) w:=eNo Tryz.func32 (by kernel_rfl) rfl
 refine wRi (by kernel_rfl) hlow (Inv 25 rnyD a0 (fun l a w=>S w∧Qbf 25 rnyD a0 l a) (fun _=>rnyF M E L N O La mb ab np tc rc sk kk wd dd ra sq xx tok RA RB)) (Inv.start ⟨hS,QaB _ _ _⟩) ?_ ?_
 ·intro l i o a w ho hl hcl hdep hI
  have hi:i<25:=by rw[←hsz];exact (Array.getElem?_eq_some_iff.1 ho).1
  have ev:∀ (s:Nat),a.eval (.tmp s)=a.tmps.getD s undef:=fun _=>rfl
  have evf:∀ f,a.eval (.func f)=.func (.func f) #[] #[]:=fun _=>rfl
  have evc:∀ c:Value,a.eval (.const c)=c:=fun _=>rfl
  have inj:∀ d,rnyD i=some d→∀ j d',j<25→rnyD j=some d'→j≠i→d'≠d:=fun d hd j d' hj hd' hne e=>hne (Ql2 j hj i hi (by rw[hd',hd,e]) (by rw[hd'];simp))
  have kp:∀ s,(∀ i,i<25→rnyD i≠some s)→a.tmps.getD s undef=a0.tmps.getD s undef:=hI.kept
  have hw:S w:=hI.world.1
  have k2:=hI.world.2
  have ex0:=hI.world.2
  have go:∀ {d:Nat}{v:Value}{w':World},rnyD i=some d→Bw w w'→S w'→rnyF M E L N O La mb ab np tc rc sk kk wd dd ra sq xx tok RA RB i v w'→Inv 25 rnyD a0 (fun l a w=>S w∧Qbf 25 rnyD a0 l a) (fun _=>rnyF M E L N O La mb ab np tc rc sk kk wd dd ra sq xx tok RA RB) (fun j=>l j || j==i) (a.put (some d) v) w':=by
   intro d v w' hD hb hS' hF
   exact hI.put hi hD (Nat.lt_of_lt_of_le (QkN i hi d hD) hs) (inj d hD) ⟨hS',k2.put hD (by rw[hI.size];exact Nat.lt_of_lt_of_le (QkN i hi d hD) hs) hi⟩ hF (fun j u _ _ _ hf=>Qjc hf hb hRA hRB)
  rcases l25 (show i<25 by omega) with rfl|rfl|rfl|rfl|rfl|rfl|rfl|rfl|rfl|rfl|rfl|rfl|rfl|rfl|rfl|rfl|rfl|rfl|rfl|rfl|rfl|rfl|rfl|rfl|rfl
  ·obtain⟨e2,e3,e4,dp⟩:=o0.at_ ho hdep
   have U3:=(kp 3 (by decide)).trans u3
   exact wVa (v:=M.ag E L N O) (w':=w) ho e4 (by simp[execOp,e3,ev,evc,U3,x0 w hw]) (by rw[e2];exact go rfl bR hw rfl)
  ·obtain⟨e2,e3,e4,dp⟩:=o1.at_ ho hdep
   have U4:=(kp 4 (by decide)).trans u4
   exact wVa (v:=M.ad La) (w':=w) ho e4 (by simp[execOp,e3,ev,evc,U4,x1 w hw]) (by rw[e2];exact go rfl bR hw rfl)
  ·obtain⟨e2,e3,e4,dp⟩:=o2.at_ ho hdep
   have U10:=(kp 10 (by decide)).trans u10
   exact wVa (v:=.slice ra kk rc) (w':=w) ho e4 (by simp[execOp,e3,ev,evc,U10]) (by rw[e2];exact go rfl bR hw rfl)
  ·obtain⟨e2,e3,e4,dp⟩:=o3.at_ ho hdep
   have U10:=(kp 10 (by decide)).trans u10
   exact wVa (v:=.slice ra kk rc) (w':=w) ho e4 (by simp[execOp,e3,ev,evc,U10]) (by rw[e2];exact go rfl bR hw rfl)
  ·obtain⟨e2,e3,e4,dp⟩:=o4.at_ ho hdep
   have V3:tm a 32=_:=hI.vl dp 3 32 rfl rfl
   exact wVa (v:=I4 (kk:Int)) (w':=w) ho e4 (by simp[execOp,e3,ev,evc,V3,builtin,resolve,invoke,goInt,Builtin.len_,run_underlying Tryz.underlying31]) (by rw[e2];exact go rfl bR hw rfl)
  ·obtain⟨e2,e3,e4,dp⟩:=o5.at_ ho hdep
   have U12:=(kp 12 (by decide)).trans u12
   exact wVa (v:=I4 (kk:Int)) (w':=w) ho e4 (by simp[execOp,e3,ev,evc,U12]) (by rw[e2];exact go rfl bR hw rfl)
  ·obtain⟨e2,e3,e4,dp⟩:=o6.at_ ho hdep
   have U3:=(kp 3 (by decide)).trans u3
   exact wVa (v:=Pt mb) (w':=w) ho e4 (by simp[execOp,e3,ev,evc,U3,x6 w]) (by rw[e2];exact go rfl bR hw rfl)
  ·obtain⟨e2,e3,e4,dp⟩:=o7.at_ ho hdep
   have V6:tm a 35=_:=hI.vl dp 6 35 rfl rfl
   exact wVa (v:=.pointer (some ⟨mb,7,none⟩)) (w':=w) ho e4 (by simp[execOp,e3,ev,evc,V6,x7 w]) (by rw[e2];exact go rfl bR hw rfl)
  ·obtain⟨e2,e3,e4,dp⟩:=o8.at_ ho hdep
   have V7:tm a 36=_:=hI.vl dp 7 36 rfl rfl
   exact wVa (v:=I4 M.n) (w':=w) ho e4 (by simp[execOp,e3,ev,evc,V7,x8 w hw]) (by rw[e2];exact go rfl bR hw rfl)
  ·obtain⟨e2,e3,e4,dp⟩:=o9.at_ ho hdep
   have V5:tm a 34=_:=hI.vl dp 5 34 rfl rfl
   have V8:tm a 37=_:=hI.vl dp 8 37 rfl rfl
   refine wCa (f:=32) (args:=#[I4 (kk:Int),I4 M.n]) ho e4 (by simp[execOp,e3,resolve,invoke,Deferred.ofValue,r32,ev,evf,evc,V5,V8]) ((x9 w hw).mono ?_)
   rintro e W' ⟨rfl,hb6,hs6⟩
   refine⟨_,rfl,?_⟩
   rw[e2]
   exact go rfl hb6 hs6 rfl
  ·obtain⟨e2,e3,e4,dp⟩:=o10.at_ ho hdep
   have V4:tm a 33=_:=hI.vl dp 4 33 rfl rfl
   have V9:tm a 38=_:=hI.vl dp 9 38 rfl rfl
   exact wVa (v:=I4 (sk:Int)) (w':=w) ho e4 (by simp[execOp,e3,ev,evc,V4,V9,builtin,resolve,invoke,goInt,Builtin.len_,run_underlying Tryz.underlying3,Qgq _ _ hmin]) (by rw[e2];exact go rfl bR hw rfl)
  ·obtain⟨e2,e3,e4,dp⟩:=o11.at_ ho hdep
   have V2:tm a 31=_:=hI.vl dp 2 31 rfl rfl
   have V10:tm a 39=_:=hI.vl dp 10 39 rfl rfl
   exact wVa (v:=.slice sq (kk-sk) (rc-sk)) (w':=w) ho e4 (by simp[execOp,e3,ev,evc,V2,V10,x11 w]) (by rw[e2];exact go rfl bR hw rfl)
  ·obtain⟨e2,e3,e4,dp⟩:=o12.at_ ho hdep
   have U12:=(kp 12 (by decide)).trans u12
   exact wVa (v:=I4 (kk:Int)) (w':=w) ho e4 (by simp[execOp,e3,ev,evc,U12]) (by rw[e2];exact go rfl bR hw rfl)
  ·obtain⟨e2,e3,e4,dp⟩:=o13.at_ ho hdep
   have U2:=(kp 2 (by decide)).trans u2
   exact wVa (v:=.slice (some xx) np tc) (w':=w) ho e4 (by simp[execOp,e3,ev,evc,U2]) (by rw[e2];exact go rfl bR hw rfl)
  ·obtain⟨e2,e3,e4,dp⟩:=o14.at_ ho hdep
   have U12:=(kp 12 (by decide)).trans u12
   exact wVa (v:=I4 (kk:Int)) (w':=w) ho e4 (by simp[execOp,e3,ev,evc,U12]) (by rw[e2];exact go rfl bR hw rfl)
  ·obtain⟨e2,e3,e4,dp⟩:=o15.at_ ho hdep
   have V13:tm a 42=_:=hI.vl dp 13 42 rfl rfl
   have V14:tm a 43=_:=hI.vl dp 14 43 rfl rfl
   exact wVa (v:=.pointer (some (xx.add kk))) (w':=w) ho e4 (by simp[execOp,e3,ev,evc,V13,V14,x15 w]) (by rw[e2];exact go rfl bR hw rfl)
  ·obtain⟨e2,e3,e4,dp⟩:=o16.at_ ho hdep
   have V15:tm a 44=_:=hI.vl dp 15 44 rfl rfl
   exact wVa (v:=I4 tok) (w':=w) ho e4 (by simp[execOp,e3,ev,evc,V15,x16 w hw]) (by rw[e2];exact go rfl bR hw rfl)
  ·obtain⟨e2,e3,e4,dp⟩:=o17.at_ ho hdep
   have V0:tm a 29=_:=hI.vl dp 0 29 rfl rfl
   have V1:tm a 30=_:=hI.vl dp 1 30 rfl rfl
   have V11:tm a 40=_:=hI.vl dp 11 40 rfl rfl
   have V12:tm a 41=_:=hI.vl dp 12 41 rfl rfl
   have V16:tm a 45=_:=hI.vl dp 16 45 rfl rfl
   refine wCa (f:=13) (args:=#[M.ag E L N O,M.ad La,.slice sq (kk-sk) (rc-sk),I4 (kk:Int),I4 tok]) ho e4 (by simp[execOp,e3,resolve,invoke,Deferred.ofValue,r13,ev,evf,evc,V0,V1,V11,V12,V16]) ((x17 w hw).mono ?_)
   rintro e W' ⟨⟨a6,c6,b6,d6,rfl,fa6,fb6⟩,hb6,hs6⟩
   refine⟨_,rfl,?_⟩
   rw[e2]
   exact go rfl hb6 hs6 ⟨a6,c6,b6,d6,rfl,fa6,fb6⟩
  ·obtain⟨e2,e3,e4,dp⟩:=o18.at_ ho hdep
   obtain⟨a17,c17,b17,d17,V17,fa17,fb17⟩:=hI.vl dp 17 46 rfl rfl
   exact wVa (v:=.tuple #[.slice a17 wd c17,.slice b17 dd d17,I4 0]) (w':=w) ho e4 (by simp[execOp,e3,ev,evc,V17]) (by rw[e2];exact go rfl bR hw ⟨a17,c17,b17,d17,rfl,fa17,fb17⟩)
  ·obtain⟨e2,e3,e4,dp⟩:=o19.at_ ho hdep
   obtain⟨a18,c18,b18,d18,V18,fa18,fb18⟩:=hI.vl dp 18 28 rfl rfl
   exact wVa (v:=.slice a18 wd c18) (w':=w) ho e4 (by simp[execOp,e3,ev,evc,V18,Instr.extract]) (by rw[e2];exact go rfl bR hw ⟨a18,c18,rfl,fa18⟩)
  ·obtain⟨e2,e3,e4,dp⟩:=o20.at_ ho hdep
   obtain⟨a18,c18,b18,d18,V18,fa18,fb18⟩:=hI.vl dp 18 28 rfl rfl
   exact wVa (v:=.slice b18 dd d18) (w':=w) ho e4 (by simp[execOp,e3,ev,evc,V18,Instr.extract]) (by rw[e2];exact go rfl bR hw ⟨b18,d18,rfl,fb18⟩)
  ·obtain⟨e2,e3,e4,dp⟩:=o21.at_ ho hdep
   obtain⟨a18,c18,b18,d18,V18,fa18,fb18⟩:=hI.vl dp 18 28 rfl rfl
   exact wVa (v:=I4 0) (w':=w) ho e4 (by simp[execOp,e3,ev,evc,V18,Instr.extract]) (by rw[e2];exact go rfl bR hw rfl)
  ·obtain⟨e2,e3,e4,dp⟩:=o22.at_ ho hdep
   obtain⟨a19,c19,V19,f19⟩:=hI.vl dp 19 47 rfl rfl
   exact wVa (v:=.slice a19 wd c19) (w':=w) ho e4 (by simp[execOp,e3,ev,evc,V19]) (by rw[e2];exact go rfl bR hw ⟨a19,c19,rfl,f19⟩)
  ·obtain⟨e2,e3,e4,dp⟩:=o23.at_ ho hdep
   obtain⟨a20,c20,V20,f20⟩:=hI.vl dp 20 48 rfl rfl
   exact wVa (v:=.slice a20 dd c20) (w':=w) ho e4 (by simp[execOp,e3,ev,evc,V20]) (by rw[e2];exact go rfl bR hw ⟨a20,c20,rfl,f20⟩)
  ·obtain⟨e2,e3,e4,dp⟩:=o24.at_ ho hdep
   have V21:tm a 49=_:=hI.vl dp 21 49 rfl rfl
   exact wVa (v:=I4 0) (w':=w) ho e4 (by simp[execOp,e3,ev,evc,V21]) (by rw[e2];exact go rfl bR hw rfl)
 ·intro l a w hall hI
  have all:∀ j,j<25→l j=true:=fun j hj=>hall j (by rw[hsz];exact hj)
  exact fin a w hI.size hI.defers hI.kept hI.world.1 (fun i d hi hD=>hI.val i d hi hD (all i hi))
def rnnD (i:Nat):Option Nat:=match i with|0=>some 29|1=>some 30|2=>some 31|3=>some 32|4=>some 33|5=>some 34|6=>some 35|7=>some 36|8=>some 37|9=>some 38|10=>some 39|11=>some 40|12=>some 41|13=>some 42|14=>some 43|15=>some 44|16=>some 45|17=>some 46|18=>some 28|19=>some 47|20=>some 48|21=>some 49|22=>some 13|23=>some 14|24=>some 15|_=>none
theorem Ql3:∀ i,i<25→∀ j,j<25→rnnD i=rnnD j→rnnD i≠none→i=j:=by decide
theorem QkO:∀ i,i<25→∀ d,rnnD i=some d→d<63:=by
 intro i hi d h
 have:∀ i,i<25→(rnnD i).all (fun d=>decide (d<63))=true:=by decide
 have:=this i hi
 rw[h] at this
 simpa using this
def rnnF (M:Md)(E L N O La:SL)(mb ab np tc rc sk kk wd dd:Nat)(ra sq:Option Addr)(xx:Addr)(tok:Int)(RA RB:World→Option Addr→Nat→Prop)(i:Nat)(q:Value)(w:World):Prop:=match i with
 | 0=>q=M.ag E L N O
 | 1=>q=M.ad La
 | 2=>q=.slice ra kk rc
 | 3=>q=.slice ra kk rc
 | 4=>q=I4 (kk:Int)
 | 5=>q=I4 (kk:Int)
 | 6=>q=Pt mb
 | 7=>q=.pointer (some ⟨mb,7,none⟩)
 | 8=>q=I4 M.n
 | 9=>q=I4 (sk:Int)
 | 10=>q=I4 (sk:Int)
 | 11=>q=.slice sq (kk-sk) (rc-sk)
 | 12=>q=I4 (kk:Int)
 | 13=>q=.slice (some xx) np tc
 | 14=>q=I4 (kk:Int)
 | 15=>q=.pointer (some (xx.add kk))
 | 16=>q=I4 tok
 | 17=>q=.tuple #[.slice none 0 0,.slice none 0 0,I4 20]
 | 18=>q=.tuple #[.slice none 0 0,.slice none 0 0,I4 20]
 | 19=>q=.slice none 0 0
 | 20=>q=.slice none 0 0
 | 21=>q=I4 20
 | 22=>q=.slice none 0 0
 | 23=>q=.slice none 0 0
 | 24=>q=I4 20
 | _=>True
theorem Qje {M:Md}{E L N O La:SL}{mb ab np tc rc sk kk wd dd:Nat}{ra sq:Option Addr}{xx:Addr}{tok:Int}{RA RB:World→Option Addr→Nat→Prop}{i:Nat}{q:Value}{w w':World}(h:rnnF M E L N O La mb ab np tc rc sk kk wd dd ra sq xx tok RA RB i q w)(hb:Bw w w'):rnnF M E L N O La mb ab np tc rc sk kk wd dd ra sq xx tok RA RB i q w':=by
 unfold rnnF at h ⊢
 split
 ·exact h
 ·exact h
 ·exact h
 ·exact h
 ·exact h
 ·exact h
 ·exact h
 ·exact h
 ·exact h
 ·exact h
 ·exact h
 ·exact h
 ·exact h
 ·exact h
 ·exact h
 ·exact h
 ·exact h
 ·exact h
 ·exact h
 ·exact h
 ·exact h
 ·exact h
 ·exact h
 ·exact h
 ·exact h
 ·trivial
theorem Qjd {id:Nat}{ops:Array Oper}{Q:Exit→Act→World→Prop}{a0:Act}{w0:World}(M:Md)(E L N O La:SL)(mb ab np tc rc sk kk wd dd:Nat)(ra sq:Option Addr)(xx:Addr)(tok:Int)(RA RB:World→Option Addr→Nat→Prop)(S:World→Prop)(hlow:lowB ops=true)(hsz:ops.size=25)
  (oo:OpS ops 0 29 (.load 27 (.tmp 3)) []∧OpS ops 1 30 (.load 30 (.tmp 4)) []∧OpS ops 2 31 (.move (.tmp 10)) []∧OpS ops 3 32 (.move (.tmp 10)) []∧OpS ops 4 33 (.call { callee:=.builtin .len,args:=#[.tmp 32],argTypes:=#[31] }) [3]∧OpS ops 5 34 (.move (.tmp 12)) []∧OpS ops 6 35 (.fieldAddr 27 (.tmp 3) 0) []∧OpS ops 7 36 (.fieldAddr 23 (.tmp 35) 7) [6]∧OpS ops 8 37 (.load 3 (.tmp 36)) [7]∧OpS ops 9 38 (.call { callee:=.value (.func 32),args:=#[.tmp 34,.tmp 37],argTypes:=#[3,3] }) [5,8]∧OpS ops 10 39 (.call { callee:=.builtin .min,args:=#[.tmp 33,.tmp 38],argTypes:=#[3,3] }) [4,9]∧OpS ops 11 40 (.slice 31 (.tmp 31) (some (.tmp 39)) none none) [2,10]∧OpS ops 12 41 (.move (.tmp 12)) []∧OpS ops 13 42 (.move (.tmp 2)) []∧OpS ops 14 43 (.move (.tmp 12)) []∧OpS ops 15 44 (.indexAddr 45 (.tmp 42) (.tmp 43)) [13,14]∧OpS ops 16 45 (.load 3 (.tmp 44)) [15]∧OpS ops 17 46 (.call { callee:=.value (.func 13),args:=#[.tmp 29,.tmp 30,.tmp 40,.tmp 41,.tmp 45],argTypes:=#[27,30,31,3,3] }) [0,1,11,12,16]∧OpS ops 18 28 (.move (.tmp 46)) [17]∧OpS ops 19 47 (.extract (.tmp 28) 0) [18]∧OpS ops 20 48 (.extract (.tmp 28) 1) [18]∧OpS ops 21 49 (.extract (.tmp 28) 2) [18]∧OpS ops 22 13 (.assign (.tmp 47)) [19]∧OpS ops 23 14 (.assign (.tmp 48)) [20]∧OpS ops 24 15 (.assign (.tmp 49)) [21])
  (hS:S w0.drew)
  (x0:∀ w,S w→(Instr.loadAt 27 (Pt mb)).run Tryz.prog w=.ok (M.ag E L N O) w)
  (x1:∀ w,S w→(Instr.loadAt 30 (Pt ab)).run Tryz.prog w=.ok (M.ad La) w)
  (x6:∀ w,(Instr.fieldAt 27 (Pt mb) 0).run Tryz.prog w=.ok (Pt mb) w)
  (x7:∀ w,(Instr.fieldAt 23 (Pt mb) 7).run Tryz.prog w=.ok (.pointer (some ⟨mb,7,none⟩)) w)
  (x8:∀ w,S w→(Instr.loadAt 3 (.pointer (some ⟨mb,7,none⟩))).run Tryz.prog w=.ok (I4 M.n) w)
  (x9:∀ w,S w→Calls Tryz.prog 32 #[I4 (kk:Int),I4 M.n] w fun e w'=>e=.returned (I4 (sk:Int))∧Bw w w'∧S w')
  (x11:∀ w,(Instr.sliceAt 31 (.slice ra kk rc) (some (I4 (sk:Int))) none none).run Tryz.prog w=.ok (.slice sq (kk-sk) (rc-sk)) w)
  (x15:∀ w,(Instr.indexAt 45 (.slice (some xx) np tc) (I4 (kk:Int))).run Tryz.prog w=.ok (.pointer (some (xx.add kk))) w)
  (x16:∀ w,S w→(Instr.loadAt 3 (.pointer (some (xx.add kk)))).run Tryz.prog w=.ok (I4 tok) w)
  (x17:∀ w,S w→Calls Tryz.prog 13 #[M.ag E L N O,M.ad La,.slice sq (kk-sk) (rc-sk),I4 (kk:Int),I4 tok] w fun e w'=>e=.returned (.tuple #[.slice none 0 0,.slice none 0 0,I4 20])∧Bw w w'∧S w')
  (u2:a0.tmps.getD 2 undef=.slice (some xx) np tc)
  (u3:a0.tmps.getD 3 undef=Pt mb)
  (u4:a0.tmps.getD 4 undef=Pt ab)
  (u10:a0.tmps.getD 10 undef=.slice ra kk rc)
  (u12:a0.tmps.getD 12 undef=I4 (kk:Int))
  (hmin:(sk:Int)≤(kk:Int))
  (hs:63≤a0.tmps.size)
  (fin:∀ a w,a.tmps.size=a0.tmps.size→a.defers=a0.defers→(∀ s,(∀ i,i<25→rnnD i≠some s)→a.tmps.getD s undef=a0.tmps.getD s undef)→S w→(∀ i d,i<25→rnnD i=some d→rnnF M E L N O La mb ab np tc rc sk kk wd dd ra sq xx tok RA RB i (a.tmps.getD d undef) w)→Q .normal a w):(Code.region id ops true).wp Tryz.prog Q a0 w0:=by
 obtain⟨o0,o1,o2,o3,o4,o5,o6,o7,o8,o9,o10,o11,o12,o13,o14,o15,o16,o17,o18,o19,o20,o21,o22,o23,o24⟩:=oo
 have r13:∀ args w,(callFunc 13 args).run Tryz.prog w=.ok (.enter 13 args) w:=eNo Tryz.func13 (by kernel_rfl) rfl
 have r32:∀ args w,(callFunc 32 args).run Tryz.prog w=.ok (.enter 32 args) w:=eNo Tryz.func32 (by kernel_rfl) rfl
 refine wRi (by kernel_rfl) hlow (Inv 25 rnnD a0 (fun l a w=>S w∧Qbf 25 rnnD a0 l a) (fun _=>rnnF M E L N O La mb ab np tc rc sk kk wd dd ra sq xx tok RA RB)) (Inv.start ⟨hS,QaB _ _ _⟩) ?_ ?_
 ·intro l i o a w ho hl hcl hdep hI
  have hi:i<25:=by rw[←hsz];exact (Array.getElem?_eq_some_iff.1 ho).1
  have ev:∀ (s:Nat),a.eval (.tmp s)=a.tmps.getD s undef:=fun _=>rfl
  have evf:∀ f,a.eval (.func f)=.func (.func f) #[] #[]:=fun _=>rfl
  have evc:∀ c:Value,a.eval (.const c)=c:=fun _=>rfl
  have inj:∀ d,rnnD i=some d→∀ j d',j<25→rnnD j=some d'→j≠i→d'≠d:=fun d hd j d' hj hd' hne e=>hne (Ql3 j hj i hi (by rw[hd',hd,e]) (by rw[hd'];simp))
  have kp:∀ s,(∀ i,i<25→rnnD i≠some s)→a.tmps.getD s undef=a0.tmps.getD s undef:=hI.kept
  have hw:S w:=hI.world.1
  have k2:=hI.world.2
  have ex0:=hI.world.2
  have go:∀ {d:Nat}{v:Value}{w':World},rnnD i=some d→Bw w w'→S w'→rnnF M E L N O La mb ab np tc rc sk kk wd dd ra sq xx tok RA RB i v w'→Inv 25 rnnD a0 (fun l a w=>S w∧Qbf 25 rnnD a0 l a) (fun _=>rnnF M E L N O La mb ab np tc rc sk kk wd dd ra sq xx tok RA RB) (fun j=>l j || j==i) (a.put (some d) v) w':=by
   intro d v w' hD hb hS' hF
   exact hI.put hi hD (Nat.lt_of_lt_of_le (QkO i hi d hD) hs) (inj d hD) ⟨hS',k2.put hD (by rw[hI.size];exact Nat.lt_of_lt_of_le (QkO i hi d hD) hs) hi⟩ hF (fun j u _ _ _ hf=>Qje hf hb)
  rcases l25 (show i<25 by omega) with rfl|rfl|rfl|rfl|rfl|rfl|rfl|rfl|rfl|rfl|rfl|rfl|rfl|rfl|rfl|rfl|rfl|rfl|rfl|rfl|rfl|rfl|rfl|rfl|rfl
  ·obtain⟨e2,e3,e4,dp⟩:=o0.at_ ho hdep
   have U3:=(kp 3 (by decide)).trans u3
   exact wVa (v:=M.ag E L N O) (w':=w) ho e4 (by simp[execOp,e3,ev,evc,U3,x0 w hw]) (by rw[e2];exact go rfl bR hw rfl)
  ·obtain⟨e2,e3,e4,dp⟩:=o1.at_ ho hdep
   have U4:=(kp 4 (by decide)).trans u4
   exact wVa (v:=M.ad La) (w':=w) ho e4 (by simp[execOp,e3,ev,evc,U4,x1 w hw]) (by rw[e2];exact go rfl bR hw rfl)
  ·obtain⟨e2,e3,e4,dp⟩:=o2.at_ ho hdep
   have U10:=(kp 10 (by decide)).trans u10
   exact wVa (v:=.slice ra kk rc) (w':=w) ho e4 (by simp[execOp,e3,ev,evc,U10]) (by rw[e2];exact go rfl bR hw rfl)
  ·obtain⟨e2,e3,e4,dp⟩:=o3.at_ ho hdep
   have U10:=(kp 10 (by decide)).trans u10
   exact wVa (v:=.slice ra kk rc) (w':=w) ho e4 (by simp[execOp,e3,ev,evc,U10]) (by rw[e2];exact go rfl bR hw rfl)
  ·obtain⟨e2,e3,e4,dp⟩:=o4.at_ ho hdep
   have V3:tm a 32=_:=hI.vl dp 3 32 rfl rfl
   exact wVa (v:=I4 (kk:Int)) (w':=w) ho e4 (by simp[execOp,e3,ev,evc,V3,builtin,resolve,invoke,goInt,Builtin.len_,run_underlying Tryz.underlying31]) (by rw[e2];exact go rfl bR hw rfl)
  ·obtain⟨e2,e3,e4,dp⟩:=o5.at_ ho hdep
   have U12:=(kp 12 (by decide)).trans u12
   exact wVa (v:=I4 (kk:Int)) (w':=w) ho e4 (by simp[execOp,e3,ev,evc,U12]) (by rw[e2];exact go rfl bR hw rfl)
  ·obtain⟨e2,e3,e4,dp⟩:=o6.at_ ho hdep
   have U3:=(kp 3 (by decide)).trans u3
   exact wVa (v:=Pt mb) (w':=w) ho e4 (by simp[execOp,e3,ev,evc,U3,x6 w]) (by rw[e2];exact go rfl bR hw rfl)
  ·obtain⟨e2,e3,e4,dp⟩:=o7.at_ ho hdep
   have V6:tm a 35=_:=hI.vl dp 6 35 rfl rfl
   exact wVa (v:=.pointer (some ⟨mb,7,none⟩)) (w':=w) ho e4 (by simp[execOp,e3,ev,evc,V6,x7 w]) (by rw[e2];exact go rfl bR hw rfl)
  ·obtain⟨e2,e3,e4,dp⟩:=o8.at_ ho hdep
   have V7:tm a 36=_:=hI.vl dp 7 36 rfl rfl
   exact wVa (v:=I4 M.n) (w':=w) ho e4 (by simp[execOp,e3,ev,evc,V7,x8 w hw]) (by rw[e2];exact go rfl bR hw rfl)
  ·obtain⟨e2,e3,e4,dp⟩:=o9.at_ ho hdep
   have V5:tm a 34=_:=hI.vl dp 5 34 rfl rfl
   have V8:tm a 37=_:=hI.vl dp 8 37 rfl rfl
   refine wCa (f:=32) (args:=#[I4 (kk:Int),I4 M.n]) ho e4 (by simp[execOp,e3,resolve,invoke,Deferred.ofValue,r32,ev,evf,evc,V5,V8]) ((x9 w hw).mono ?_)
   rintro e W' ⟨rfl,hb6,hs6⟩
   refine⟨_,rfl,?_⟩
   rw[e2]
   exact go rfl hb6 hs6 rfl
  ·obtain⟨e2,e3,e4,dp⟩:=o10.at_ ho hdep
   have V4:tm a 33=_:=hI.vl dp 4 33 rfl rfl
   have V9:tm a 38=_:=hI.vl dp 9 38 rfl rfl
   exact wVa (v:=I4 (sk:Int)) (w':=w) ho e4 (by simp[execOp,e3,ev,evc,V4,V9,builtin,resolve,invoke,goInt,Builtin.len_,run_underlying Tryz.underlying3,Qgq _ _ hmin]) (by rw[e2];exact go rfl bR hw rfl)
  ·obtain⟨e2,e3,e4,dp⟩:=o11.at_ ho hdep
   have V2:tm a 31=_:=hI.vl dp 2 31 rfl rfl
   have V10:tm a 39=_:=hI.vl dp 10 39 rfl rfl
   exact wVa (v:=.slice sq (kk-sk) (rc-sk)) (w':=w) ho e4 (by simp[execOp,e3,ev,evc,V2,V10,x11 w]) (by rw[e2];exact go rfl bR hw rfl)
  ·obtain⟨e2,e3,e4,dp⟩:=o12.at_ ho hdep
   have U12:=(kp 12 (by decide)).trans u12
   exact wVa (v:=I4 (kk:Int)) (w':=w) ho e4 (by simp[execOp,e3,ev,evc,U12]) (by rw[e2];exact go rfl bR hw rfl)
  ·obtain⟨e2,e3,e4,dp⟩:=o13.at_ ho hdep
   have U2:=(kp 2 (by decide)).trans u2
   exact wVa (v:=.slice (some xx) np tc) (w':=w) ho e4 (by simp[execOp,e3,ev,evc,U2]) (by rw[e2];exact go rfl bR hw rfl)
  ·obtain⟨e2,e3,e4,dp⟩:=o14.at_ ho hdep
   have U12:=(kp 12 (by decide)).trans u12
   exact wVa (v:=I4 (kk:Int)) (w':=w) ho e4 (by simp[execOp,e3,ev,evc,U12]) (by rw[e2];exact go rfl bR hw rfl)
  ·obtain⟨e2,e3,e4,dp⟩:=o15.at_ ho hdep
   have V13:tm a 42=_:=hI.vl dp 13 42 rfl rfl
   have V14:tm a 43=_:=hI.vl dp 14 43 rfl rfl
   exact wVa (v:=.pointer (some (xx.add kk))) (w':=w) ho e4 (by simp[execOp,e3,ev,evc,V13,V14,x15 w]) (by rw[e2];exact go rfl bR hw rfl)
  ·obtain⟨e2,e3,e4,dp⟩:=o16.at_ ho hdep
   have V15:tm a 44=_:=hI.vl dp 15 44 rfl rfl
   exact wVa (v:=I4 tok) (w':=w) ho e4 (by simp[execOp,e3,ev,evc,V15,x16 w hw]) (by rw[e2];exact go rfl bR hw rfl)
  ·obtain⟨e2,e3,e4,dp⟩:=o17.at_ ho hdep
   have V0:tm a 29=_:=hI.vl dp 0 29 rfl rfl
   have V1:tm a 30=_:=hI.vl dp 1 30 rfl rfl
   have V11:tm a 40=_:=hI.vl dp 11 40 rfl rfl
   have V12:tm a 41=_:=hI.vl dp 12 41 rfl rfl
   have V16:tm a 45=_:=hI.vl dp 16 45 rfl rfl
   refine wCa (f:=13) (args:=#[M.ag E L N O,M.ad La,.slice sq (kk-sk) (rc-sk),I4 (kk:Int),I4 tok]) ho e4 (by simp[execOp,e3,resolve,invoke,Deferred.ofValue,r13,ev,evf,evc,V0,V1,V11,V12,V16]) ((x17 w hw).mono ?_)
   rintro e W' ⟨rfl,hb6,hs6⟩
   refine⟨_,rfl,?_⟩
   rw[e2]
   exact go rfl hb6 hs6 rfl
  ·obtain⟨e2,e3,e4,dp⟩:=o18.at_ ho hdep
   have V17:tm a 46=_:=hI.vl dp 17 46 rfl rfl
   exact wVa (v:=.tuple #[.slice none 0 0,.slice none 0 0,I4 20]) (w':=w) ho e4 (by simp[execOp,e3,ev,evc,V17]) (by rw[e2];exact go rfl bR hw rfl)
  ·obtain⟨e2,e3,e4,dp⟩:=o19.at_ ho hdep
   have V18:tm a 28=_:=hI.vl dp 18 28 rfl rfl
   exact wVa (v:=.slice none 0 0) (w':=w) ho e4 (by simp[execOp,e3,ev,evc,V18,Instr.extract]) (by rw[e2];exact go rfl bR hw rfl)
  ·obtain⟨e2,e3,e4,dp⟩:=o20.at_ ho hdep
   have V18:tm a 28=_:=hI.vl dp 18 28 rfl rfl
   exact wVa (v:=.slice none 0 0) (w':=w) ho e4 (by simp[execOp,e3,ev,evc,V18,Instr.extract]) (by rw[e2];exact go rfl bR hw rfl)
  ·obtain⟨e2,e3,e4,dp⟩:=o21.at_ ho hdep
   have V18:tm a 28=_:=hI.vl dp 18 28 rfl rfl
   exact wVa (v:=I4 20) (w':=w) ho e4 (by simp[execOp,e3,ev,evc,V18,Instr.extract]) (by rw[e2];exact go rfl bR hw rfl)
  ·obtain⟨e2,e3,e4,dp⟩:=o22.at_ ho hdep
   have V19:tm a 47=_:=hI.vl dp 19 47 rfl rfl
   exact wVa (v:=.slice none 0 0) (w':=w) ho e4 (by simp[execOp,e3,ev,evc,V19]) (by rw[e2];exact go rfl bR hw rfl)
  ·obtain⟨e2,e3,e4,dp⟩:=o23.at_ ho hdep
   have V20:tm a 48=_:=hI.vl dp 20 48 rfl rfl
   exact wVa (v:=.slice none 0 0) (w':=w) ho e4 (by simp[execOp,e3,ev,evc,V20]) (by rw[e2];exact go rfl bR hw rfl)
  ·obtain⟨e2,e3,e4,dp⟩:=o24.at_ ho hdep
   have V21:tm a 49=_:=hI.vl dp 21 49 rfl rfl
   exact wVa (v:=I4 20) (w':=w) ho e4 (by simp[execOp,e3,ev,evc,V21]) (by rw[e2];exact go rfl bR hw rfl)
 ·intro l a w hall hI
  have all:∀ j,j<25→l j=true:=fun j hj=>hall j (by rw[hsz];exact hj)
  exact fin a w hI.size hI.defers hI.kept hI.world.1 (fun i d hi hD=>hI.val i d hi hD (all i hi))
end Go.Proofs.YthliomlmhfjhnaaGreat
