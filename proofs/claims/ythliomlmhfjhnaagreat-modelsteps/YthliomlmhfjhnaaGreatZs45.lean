/- Texts put together. -/
import Derived.Test.YthliomlmhfjhnaaGreatZs41
import Derived.Deep.Cut
namespace Go.Proofs.YthliomlmhfjhnaaGreat
set_option maxRecDepth 20000
set_option maxHeartbeats 16000000
open Go.ChangeShapes Go.WideShapes Go.ChangeAt Go.RowKit
set_option linter.unusedVariables false
set_option linter.unusedSimpArgs false
theorem lyD_out {s:Nat}(h:s ∉ [68,69,70,71,72,73,74,75,76,77,78,79,80,81,82,83,84,85,86,87,88,89,90,91,92,93,94,95,96,97,98,99,100,101,102,103,104,105,106,107,108,109,110,111,112,113,114,115,116,117,118,119,120,121,122,123,124,125,126,127,128,129,130,131,132,133,134,135,136,137,138,139,5]):∀ j,j<73→lyD j≠some s:=by
 intro j hj e
 apply h
 have:∀ j,j<73→∀ s,lyD j=some s→s∈[68,69,70,71,72,73,74,75,76,77,78,79,80,81,82,83,84,85,86,87,88,89,90,91,92,93,94,95,96,97,98,99,100,101,102,103,104,105,106,107,108,109,110,111,112,113,114,115,116,117,118,119,120,121,122,123,124,125,126,127,128,129,130,131,132,133,134,135,136,137,138,139,5]:=by
  intro j hj
  have H:∀ j,j<73→(match lyD j with|some s=>decide (s∈[68,69,70,71,72,73,74,75,76,77,78,79,80,81,82,83,84,85,86,87,88,89,90,91,92,93,94,95,96,97,98,99,100,101,102,103,104,105,106,107,108,109,110,111,112,113,114,115,116,117,118,119,120,121,122,123,124,125,126,127,128,129,130,131,132,133,134,135,136,137,138,139,5])|none=>true)=true:=by decide
  intro s hs
  have:=H j hj
  rw[hs] at this
  simpa using this
 exact this j hj s e
def lyC (D DD XD:Nat)(NE:Int)(Y:Nat→SL)(j:Nat):Bool:=((Y j).n:Int)==(if j=0∨j=5 then (D:Int) else if j=6 then (XD:Int) else if j<7 then (DD:Int) else NE)
theorem refCheck_few_main (h v u x t n:Int)(D DD XD UD VD ml Lc lN:Nat)(La:Option Addr)(E L N O:SL)(Y U Dn:Nat→Nat→SL)(m:ModV)(w:World)(RES:Int)(e1:v*(D:Int)=(VD:Int))(e2:(D:Int)*(D:Int)=(DD:Int))(e3:x*(D:Int)=(XD:Int))(e4:u*(D:Int)=(UD:Int))(e5:(D:Int)*u=(UD:Int))(xlt:x<1)
  (bD:D≤8) (bVD:VD≤1000) (bDD:DD≤1000) (bXD:XD≤1000) (bUD:UD≤1000) (hL:L=⟨La,ml,Lc⟩) (hM:ModAt w E L N O Y U Dn m) (hmx:ml≤9223372036854775807)
  (k10:∀ W,Calls Tryz.prog 36 #[.agg #[.int .i64 (D:Int),.int .i64 h,.int .i64 (lN:Int),.int .i64 v,.int .i64 u,.int .i64 x,.int .i64 t,.int .i64 n]] W fun e w'=>e=.returned (.bool true)∧Below W.heap.size W w') (hgood:AllR lN D DD XD UD VD 1 m→RES=0) (hbad:¬AllR lN D DD XD UD VD 1 m→RES=21)
  (p0:P0 lN D VD m) (t0:((ml:Int)==(lN:Int))=true) (t1:((E.n:Int)==(VD:Int))=true) (t2:((N.n:Int)==(D:Int))=true) (t3:((O.n:Int)==(VD:Int))=true) :
  Calls Tryz.prog 50 #[.agg #[.int .i64 (D:Int),.int .i64 h,.int .i64 (lN:Int),.int .i64 v,.int .i64 u,.int .i64 x,.int .i64 t,.int .i64 n,.slice E.a E.n E.c,.slice La ml Lc,.slice N.a N.n N.c,.slice O.a O.n O.c]] w fun e w'=>e=.returned (.int .i64 RES)∧Below w.heap.size w w':=by
 have eml:m.ln=ml:=by have:=hM.len;rw[hL] at this;exact this.symm
 have hb:=bNw (bNw (Below.refl w.heap.size w) (.cells #[.int .i64 (D:Int),.int .i64 h,.int .i64 (lN:Int),.int .i64 v,.int .i64 u,.int .i64 x,.int .i64 t,.int .i64 n,.slice E.a E.n E.c,.slice La ml Lc,.slice N.a N.n N.c,.slice O.a O.n O.c] 27)) (.cells #[.int .i64 (D:Int),.int .i64 h,.int .i64 (lN:Int),.int .i64 v,.int .i64 u,.int .i64 x,.int .i64 t,.int .i64 n] 23)
 have qb:Blk 27 ((w.alloc (.cells #[.int .i64 (D:Int),.int .i64 h,.int .i64 (lN:Int),.int .i64 v,.int .i64 u,.int .i64 x,.int .i64 t,.int .i64 n,.slice E.a E.n E.c,.slice La ml Lc,.slice N.a N.n N.c,.slice O.a O.n O.c] 27)).alloc (.cells #[.int .i64 (D:Int),.int .i64 h,.int .i64 (lN:Int),.int .i64 v,.int .i64 u,.int .i64 x,.int .i64 t,.int .i64 n] 23)) w.heap.size #[.int .i64 (D:Int),.int .i64 h,.int .i64 (lN:Int),.int .i64 v,.int .i64 u,.int .i64 x,.int .i64 t,.int .i64 n,.slice E.a E.n E.c,.slice La ml Lc,.slice N.a N.n N.c,.slice O.a O.n O.c]:=(Blk.new 27 w _).kept (bNw (Below.refl _ _) _)
 have qc:Blk 23 ((w.alloc (.cells #[.int .i64 (D:Int),.int .i64 h,.int .i64 (lN:Int),.int .i64 v,.int .i64 u,.int .i64 x,.int .i64 t,.int .i64 n,.slice E.a E.n E.c,.slice La ml Lc,.slice N.a N.n N.c,.slice O.a O.n O.c] 27)).alloc (.cells #[.int .i64 (D:Int),.int .i64 h,.int .i64 (lN:Int),.int .i64 v,.int .i64 u,.int .i64 x,.int .i64 t,.int .i64 n] 23)) (w.heap.size+1) #[.int .i64 (D:Int),.int .i64 h,.int .i64 (lN:Int),.int .i64 v,.int .i64 u,.int .i64 x,.int .i64 t,.int .i64 n]:=Blk.new_at 23 (w.alloc _) _ _ (by simp)
 obtain⟨a0,a1,a2,a3,a4,a5,a6,a7,a8,a9,a10,a11⟩:=qb.c12
 obtain⟨b0,b1,b2,b3,b4,b5,b6,b7⟩:=qc.cfg
 have HH:=hdn (And.intro p0 (And.intro hM eml))
 have HL:=hdn (show L.a=La by rw[hL])
 have HG:=hdn (And.intro hgood hbad)
 clear p0 hM eml hL hgood hbad
 go_enter Tryz.func50,Tryz.ntmps50
 go_wp2_with (first
  | (go_at_call 36;refine (k10 _).mono ?_;rintro e W1 ⟨rfl,h1⟩;replace qb:=qb.kept h1;replace qc:=qc.kept h1;replace hb:=bTn hb h1;clear h1 a0 a1 a2 a3 a4 a5 a6 a7 a8 a9 a10 a11 b0 b1 b2 b3 b4 b5 b6 b7;obtain⟨a0,a1,a2,a3,a4,a5,a6,a7,a8,a9,a10,a11⟩:=qb.c12;obtain⟨b0,b1,b2,b3,b4,b5,b6,b7⟩:=qc.cfg))
 have HB0:=hdn (And.intro hb (And.intro qb qc))
 clear hb a0 a1 a2 a3 a4 a5 a6 a7 a8 a9 a10 a11 b0 b1 b2 b3 b4 b5 b6 b7 t0 t1 t2 t3 qb qc
 go_loopw [5,7,8,9] (fun vb i _ _ wr=>∃ (b:Bool) (k:Nat),k≤ml∧vb=.bool b∧i=.int .i64 k∧Below W1.heap.size W1 wr∧(b=true→∀ j,j<k→Ly D DD XD 1 m j∧∀ j',j'<1→Nt UD m j j')∧(b=false→¬AllR lN D DD XD UD VD 1 m)) (fun _ i _ _ _=>ml-(intOf i).toNat)
 case atStart=>exact⟨true,0,Nat.zero_le _,rfl,rfl,Below.refl _ _,(fun _ j hj=>absurd hj (by omega)),(fun h=>by cases h)⟩
 case round =>
  obtain⟨b,k,hk,rfl,rfl,hbr,hgd,hbd⟩:=hrel
  obtain⟨WR,eWR⟩:∃ WR,WR=wr:=⟨_,rfl⟩
  subst eWR
  obtain⟨hb,qb,qc⟩:=HB0.out
  have hbw:=bTn hb hbr
  have qbr:=qb.kept hbr
  have qcr:=qc.kept hbr
  obtain⟨a0,a1,a2,a3,a4,a5,a6,a7,a8,a9,a10,a11⟩:=qbr.c12
  obtain⟨b0,b1,b2,b3,b4,b5,b6,b7⟩:=qcr.cfg
  cases b with
  | false =>
   have RB:=hdn (HG.out.2 (hbd rfl))
   clear hgd hbd hb qb qc hbr qbr qcr
   by_cases hlt:k<ml
   ·have hz':decide ((k:Int)<(ml:Int))=true:=by simp;omega
    have hz2:(k:Int)<(ml:Int):=by omega
    go_wp2
    go_ret
    exact⟨by rw[RB.out];rfl,hbw⟩
   ·have hz':decide ((k:Int)<(ml:Int))=false:=by simp;omega
    have hz2:¬(k:Int)<(ml:Int):=by omega
    go_wp2
    go_ret
    exact⟨by rw[RB.out];rfl,hbw⟩
  | true =>
  by_cases hlt:k<ml
  ·have hz':decide ((k:Int)<(ml:Int))=true:=by simp;omega
   have hz2:(k:Int)<(ml:Int):=by omega
   obtain⟨P0',hM',eml'⟩:=HH.out
   have hMr:=hM'.below hbw
   have hkm:k<m.ln:=by omega
   obtain⟨x0,hx0⟩:=hMr.some_ (by omega)
   obtain rfl:La=some x0:=by rw[←hx0,HL.out]
   have LA:=hMr.lay k hkm
   obtain⟨P,eP,p0,p1,p2,p3,p4,p5,p6,p7,p8⟩:=at_nine (fun j hj=>hMr.cell x0 hx0 k hkm j hj)
   obtain⟨A,eA⟩:∃ A,WR.alloc (.cells #[.slice (Y k 0).a (Y k 0).n (Y k 0).c,.slice (Y k 1).a (Y k 1).n (Y k 1).c,.slice (Y k 2).a (Y k 2).n (Y k 2).c,.slice (Y k 3).a (Y k 3).n (Y k 3).c,.slice (Y k 4).a (Y k 4).n (Y k 4).c,.slice (Y k 5).a (Y k 5).n (Y k 5).c,.slice (Y k 6).a (Y k 6).n (Y k 6).c,.slice (Y k 7).a (Y k 7).n (Y k 7).c,.slice (Y k 8).a (Y k 8).n (Y k 8).c] 65)=A:=⟨_,rfl⟩
   have bA:Below WR.heap.size WR A:=eA ▸ bNw (Below.refl _ _) _
   have gA:Blk 65 A WR.heap.size #[.slice (Y k 0).a (Y k 0).n (Y k 0).c,.slice (Y k 1).a (Y k 1).n (Y k 1).c,.slice (Y k 2).a (Y k 2).n (Y k 2).c,.slice (Y k 3).a (Y k 3).n (Y k 3).c,.slice (Y k 4).a (Y k 4).n (Y k 4).c,.slice (Y k 5).a (Y k 5).n (Y k 5).c,.slice (Y k 6).a (Y k 6).n (Y k 6).c,.slice (Y k 7).a (Y k 7).n (Y k 7).c,.slice (Y k 8).a (Y k 8).n (Y k 8).c]:=eA ▸ Blk.new 65 WR _
   have qbA:=qbr.kept bA
   have qcA:=qcr.kept bA
   obtain⟨d0,d1,d2,d3,d4,d5,d6,d7⟩:=qcA.cfg
   have c0:=gA.cell 0 rfl
   have c1:=gA.cell 1 rfl
   have c2:=gA.cell 2 rfl
   have c3:=gA.cell 3 rfl
   have c4:=gA.cell 4 rfl
   have c5:=gA.cell 5 rfl
   have c6:=gA.cell 6 rfl
   have c7:=gA.cell 7 rfl
   have c8:=gA.cell 8 rfl
   have hbA:=bTn hbr bA
   have HX:=hdn (And.intro hgd (And.intro hbA (And.intro qbA (And.intro qcA (And.intro gA (LA.below bA))))))
   clear hMr hM' P0' eml' hgd hbd hb qb qc hbr qbr qcr hbw qbA qcA hx0 gA bA hbA
   have LYK:Hid (lyC D DD XD 1 (Y k)=lyC D DD XD 1 (Y k)∧(bk (lyC D DD XD 1 (Y k)) 8=true→Ly D DD XD 1 m k∧(Y k 7).n=1∧(Y k 8).n=1)):=⟨rfl,fun hb=>by
    have H:=bk_all.1 hb
    have y0:((Y k 0).n:Int)=(D:Int):=(by simpa [lyC] using H 0 (by omega))
    have y1:((Y k 1).n:Int)=(DD:Int):=(by simpa [lyC] using H 1 (by omega))
    have y2:((Y k 2).n:Int)=(DD:Int):=(by simpa [lyC] using H 2 (by omega))
    have y3:((Y k 3).n:Int)=(DD:Int):=(by simpa [lyC] using H 3 (by omega))
    have y4:((Y k 4).n:Int)=(DD:Int):=(by simpa [lyC] using H 4 (by omega))
    have y5:((Y k 5).n:Int)=(D:Int):=(by simpa [lyC] using H 5 (by omega))
    have y6:((Y k 6).n:Int)=(XD:Int):=(by simpa [lyC] using H 6 (by omega))
    have y7:((Y k 7).n:Int)=1:=(by simpa [lyC] using H 7 (by omega))
    have y8:((Y k 8).n:Int)=1:=(by simpa [lyC] using H 8 (by omega))
    have z0:=(LA.f 0 (by omega)).reads.len
    have z1:=(LA.f 1 (by omega)).reads.len
    have z2:=(LA.f 2 (by omega)).reads.len
    have z3:=(LA.f 3 (by omega)).reads.len
    have z4:=(LA.f 4 (by omega)).reads.len
    have z5:=(LA.f 5 (by omega)).reads.len
    have z6:=(LA.f 6 (by omega)).reads.len
    have z7:=LA.u.len
    have z8:=LA.d.len
    refine⟨⟨fun r hr=>?_,by omega,by omega⟩,by omega,by omega⟩
    rcases (show r=0∨r=1∨r=2∨r=3∨r=4∨r=5∨r=6 by omega) with rfl|rfl|rfl|rfl|rfl|rfl|rfl
    ·show _=D;omega
    ·show _=DD;omega
    ·show _=DD;omega
    ·show _=DD;omega
    ·show _=DD;omega
    ·show _=D;omega
    ·show _=XD;omega⟩
   have LNO:Hid (bk (lyC D DD XD 1 (Y k)) 8=false→¬AllR lN D DD XD UD VD 1 m):=fun hb a=>by
    have:=HH.out.2.2
    have LY:=(a.2 k (by omega)).1
    have f0:(m.f k 0).length=D:=LY.1 0 (by omega)
    have f1:(m.f k 1).length=DD:=LY.1 1 (by omega)
    have f2:(m.f k 2).length=DD:=LY.1 2 (by omega)
    have f3:(m.f k 3).length=DD:=LY.1 3 (by omega)
    have f4:(m.f k 4).length=DD:=LY.1 4 (by omega)
    have f5:(m.f k 5).length=D:=LY.1 5 (by omega)
    have f6:(m.f k 6).length=XD:=LY.1 6 (by omega)
    have f7:=LY.2.1
    have f8:=LY.2.2
    have z0:=(LA.f 0 (by omega)).reads.len
    have z1:=(LA.f 1 (by omega)).reads.len
    have z2:=(LA.f 2 (by omega)).reads.len
    have z3:=(LA.f 3 (by omega)).reads.len
    have z4:=(LA.f 4 (by omega)).reads.len
    have z5:=(LA.f 5 (by omega)).reads.len
    have z6:=(LA.f 6 (by omega)).reads.len
    have z7:=LA.u.len
    have z8:=LA.d.len
    have:bk (lyC D DD XD 1 (Y k)) 8=true:=bk_all.2 fun i hi=>by
     rcases (show i=0∨i=1∨i=2∨i=3∨i=4∨i=5∨i=6∨i=7∨i=8 by omega) with rfl|rfl|rfl|rfl|rfl|rfl|rfl|rfl|rfl<;>(simp[lyC];omega)
    rw[hb] at this
    cases this
   clear LA
   have HX2:=HX.out
   go_upto_region 11 with fail
   clear c0 c1 c2 c3 c4 c5 c6 c7 c8 d0 d1 d2 d3 d4 d5 d6 d7 a0 a1 a2 a3 a4 a5 a6 a7 a8 a9 a10 a11 b0 b1 b2 b3 b4 b5 b6 b7 p0 p1 p2 p3 p4 p5 p6 p7 p8
   refine layer_region h (lN:Int) v u x t n D DD XD 1 (w.heap.size+1) WR.heap.size (Y k) (lyC D DD XD 1 (Y k)) SL.nought SL.nought SL.nought rfl (fun w=>by go_simp;exact wrap_fits (by omega) (by omega)) (fun w=>by go_simp;exact wrap_fits (by omega) (by omega)) ⟨rfl,rfl,rfl,rfl,rfl,rfl,rfl,rfl,rfl⟩ HX2.2.2.2.2.1 HX2.2.2.2.1 rfl rfl rfl rfl (Nat.le_of_ble_eq_true rfl) ?_
   intro a wA hs hd hkp v5 eA'
   have eA2:=eA'.symm
   subst eA2
   have ep:=fPu [68,69,70,71,72,73,74,75,76,77,78,79,80,81,82,83,84,85,86,87,88,89,90,91,92,93,94,95,96,97,98,99,100,101,102,103,104,105,106,107,108,109,110,111,112,113,114,115,116,117,118,119,120,121,122,123,124,125,126,127,128,129,130,131,132,133,134,135,136,137,138,139,5] hs hd (fun s h'=>hkp s (lyD_out h'))
   simp only[List.foldl] at ep
   rw[v5] at ep
   clear hs hd hkp v5 HX2
   generalize a.tmps.getD 68 undef=g68,a.tmps.getD 69 undef=g69,a.tmps.getD 70 undef=g70,a.tmps.getD 71 undef=g71,a.tmps.getD 72 undef=g72,a.tmps.getD 73 undef=g73,a.tmps.getD 74 undef=g74,a.tmps.getD 75 undef=g75,a.tmps.getD 76 undef=g76,a.tmps.getD 77 undef=g77,a.tmps.getD 78 undef=g78,a.tmps.getD 79 undef=g79,a.tmps.getD 80 undef=g80,a.tmps.getD 81 undef=g81,a.tmps.getD 82 undef=g82,a.tmps.getD 83 undef=g83,a.tmps.getD 84 undef=g84,a.tmps.getD 85 undef=g85,a.tmps.getD 86 undef=g86,a.tmps.getD 87 undef=g87,a.tmps.getD 88 undef=g88,a.tmps.getD 89 undef=g89,a.tmps.getD 90 undef=g90,a.tmps.getD 91 undef=g91,a.tmps.getD 92 undef=g92,a.tmps.getD 93 undef=g93,a.tmps.getD 94 undef=g94,a.tmps.getD 95 undef=g95,a.tmps.getD 96 undef=g96,a.tmps.getD 97 undef=g97,a.tmps.getD 98 undef=g98,a.tmps.getD 99 undef=g99,a.tmps.getD 100 undef=g100,a.tmps.getD 101 undef=g101,a.tmps.getD 102 undef=g102,a.tmps.getD 103 undef=g103,a.tmps.getD 104 undef=g104,a.tmps.getD 105 undef=g105,a.tmps.getD 106 undef=g106,a.tmps.getD 107 undef=g107,a.tmps.getD 108 undef=g108,a.tmps.getD 109 undef=g109,a.tmps.getD 110 undef=g110,a.tmps.getD 111 undef=g111,a.tmps.getD 112 undef=g112,a.tmps.getD 113 undef=g113,a.tmps.getD 114 undef=g114,a.tmps.getD 115 undef=g115,a.tmps.getD 116 undef=g116,a.tmps.getD 117 undef=g117,a.tmps.getD 118 undef=g118,a.tmps.getD 119 undef=g119,a.tmps.getD 120 undef=g120,a.tmps.getD 121 undef=g121,a.tmps.getD 122 undef=g122,a.tmps.getD 123 undef=g123,a.tmps.getD 124 undef=g124,a.tmps.getD 125 undef=g125,a.tmps.getD 126 undef=g126,a.tmps.getD 127 undef=g127,a.tmps.getD 128 undef=g128,a.tmps.getD 129 undef=g129,a.tmps.getD 130 undef=g130,a.tmps.getD 131 undef=g131,a.tmps.getD 132 undef=g132,a.tmps.getD 133 undef=g133,a.tmps.getD 134 undef=g134,a.tmps.getD 135 undef=g135,a.tmps.getD 136 undef=g136,a.tmps.getD 137 undef=g137,a.tmps.getD 138 undef=g138,a.tmps.getD 139 undef=g139 at ep
   simp only[Act.put,List.setIfInBounds_toArray,List.set_cons_succ,List.set_cons_zero] at ep
   subst ep
   obtain⟨BB,eBB⟩:∃ BB,bk (lyC D DD XD 1 (Y k)) 8=BB:=⟨_,rfl⟩
   rw[eBB] at LYK LNO ⊢
   go_wp2
   clear eA
   obtain⟨lb,elb⟩:∃ lb,WR.heap.size=lb:=⟨_,rfl⟩
   rw[elb] at HX ⊢
   clear elb eBB
   go_loopw [5,9] (fun vb j wr=>∃ (b:Bool) (q:Nat),q≤1∧vb=.bool b∧j=.int .i64 q∧Below A.heap.size A wr∧(b=true→BB=true∧∀ j',j'<q→Nt UD m k j')∧(b=false→¬AllR lN D DD XD UD VD 1 m)) (fun _ j _=>1-(intOf j).toNat)
   case atStart=>exact⟨BB,0,Nat.zero_le _,rfl,rfl,Below.refl _ _,(fun h=>⟨h,fun j hj=>absurd hj (by omega)⟩),LNO.out⟩
   case round =>
    obtain⟨b,q,hq,rfl,rfl,hbq,hgd2,hbd2⟩:=hrel
    obtain⟨hgd,hbA,qbA,qcA,gA,LA⟩:=HX.out
    have hbF:=bTn hbA hbq
    cases b with
    | false =>
     have BAD:=hdn (hbd2 rfl)
     clear hgd hbA qbA qcA gA LA hgd2 hbd2 hbq
     by_cases hl2:q<1
     ·have hz3:decide ((q:Int)<1)=true:=by simp;omega
      have hz4:(q:Int)<1:=by omega
      go_wp2
      go_roundw
      case rel=>exact⟨false,k+1,by omega,rfl,by go_num,hbF,(fun h=>by cases h),fun _=>BAD.out⟩
      case measure=>simp[intOf];omega
     ·have hz3:decide ((q:Int)<1)=false:=by simp;omega
      have hz4:¬(q:Int)<1:=by omega
      go_wp2
      go_roundw
      case rel=>exact⟨false,k+1,by omega,rfl,by go_num,hbF,(fun h=>by cases h),fun _=>BAD.out⟩
      case measure=>simp[intOf];omega
    | true =>
    obtain⟨hBB,hgd2⟩:=hgd2 rfl
    have LEN:=hdn (LYK.out.2 hBB)
    have hgd3:BB=true:=hBB
    clear hBB
    have HBB:=hdn hgd3
    clear hgd3
    by_cases hl2:q<1
    ·have hz3:decide ((q:Int)<1)=true:=by simp;omega
     have hz4:(q:Int)<1:=by omega
     have LAq:=LA.below hbq
     have e7:=LEN.out.2.1
     have e8:=LEN.out.2.2
     obtain⟨x7,hx7⟩:=LAq.u.some_ (by have:=LAq.u.len;omega)
     obtain⟨x8,hx8⟩:=LAq.d.some_ (by have:=LAq.d.len;omega)
     have g:=gA.kept hbq
     rw[hx7,hx8,e7,e8] at g
     have c7:=g.cell 7 rfl
     have c8:=g.cell 8 rfl
     obtain⟨d0,d1,d2,d3,d4,d5,d6,d7⟩:=(qcA.kept hbq).cfg
     have cU:wr.cell? (x7.add q)=some (.slice (U k q).a (U k q).n (U k q).c):=LAq.u.cell x7 hx7 q (by have:=LAq.u.len;omega)
     have cD:wr.cell? (x8.add q)=some (.slice (Dn k q).a (Dn k q).n (Dn k q).c):=LAq.d.cell x8 hx8 q (by have:=LAq.d.len;omega)
     have rU:=(LAq.u.row q (by have:=LAq.u.len;omega)).reads.len
     have rD:=(LAq.d.row q (by have:=LAq.d.len;omega)).reads.len
     have HR:=hdn (And.intro rU (And.intro rD hgd2))
     clear LAq LA e7 e8 hx7 hx8 g hgd hbA qbA qcA gA hgd2 hbd2 rU rD
     cases s0:(((U k q).n:Int)==(UD:Int)) with
     | false =>
      have BAD:Hid (¬AllR lN D DD XD UD VD 1 m):=fun a=>by have:=HH.out.2.2;have:=((a.2 k (by omega)).2 q hl2).1;have:=HR.out.1;have g:((U k q).n:Int)≠(UD:Int):=(by simpa using s0);omega
      go_wp2
      go_quiet (fail)
      go_wp2
      go_roundw
      case rel=>exact⟨false,q+1,by omega,rfl,by go_num,bDr hbq ⟨_,rfl⟩,(fun h=>by cases h),fun _=>BAD.out⟩
      case measure=>simp[intOf];omega
     | true =>
     cases s1:(((Dn k q).n:Int)==(UD:Int)) with
     | false =>
      have BAD:Hid (¬AllR lN D DD XD UD VD 1 m):=fun a=>by have:=HH.out.2.2;have:=((a.2 k (by omega)).2 q hl2).2;have:=HR.out.2.1;have g:((Dn k q).n:Int)≠(UD:Int):=(by simpa using s1);omega
      go_wp2
      go_quiet (fail)
      go_wp2
      go_roundw
      case rel=>exact⟨false,q+1,by omega,rfl,by go_num,bDr hbq ⟨_,rfl⟩,(fun h=>by cases h),fun _=>BAD.out⟩
      case measure=>simp[intOf];omega
     | true =>
      have NTQ:Hid (Nt UD m k q):=⟨by have:=HR.out.1;have g:((U k q).n:Int)=(UD:Int):=(by simpa using s0);omega,by have:=HR.out.2.1;have g:((Dn k q).n:Int)=(UD:Int):=(by simpa using s1);omega⟩
      go_wp2
      go_quiet (fail)
      go_wp2
      go_roundw
      case rel=>exact⟨true,q+1,by omega,rfl,by go_num,bDr hbq ⟨_,rfl⟩,(fun _=>⟨HBB.out,fun j hj=>(Decidable.em (j=q)).elim (fun e=>by rw[e];exact NTQ.out) (fun e=>HR.out.2.2 j (by omega))⟩),(fun h=>by cases h)⟩
      case measure=>simp[intOf];omega
    ·have hz3:decide ((q:Int)<1)=false:=by simp;omega
     have hz4:¬(q:Int)<1:=by omega
     have eq:q=1:=by omega
     have GD:=hdn (And.intro hgd (And.intro hgd2 eq))
     clear hgd hbA qbA qcA gA LA hgd2 hbd2 hbq eq
     go_wp2
     go_roundw
     case rel=>exact⟨true,k+1,by omega,rfl,by go_num,hbF,(fun _ j hj=>(Decidable.em (j=k)).elim (fun e=>by rw[e];exact⟨LEN.out.1,fun j' hj'=>GD.out.2.1 j' (by have:=GD.out.2.2;omega)⟩) (fun e=>GD.out.1 (by first|rfl|trivial) j (by omega))),(fun h=>by cases h)⟩
     case measure=>simp[intOf];omega
  ·have hz':decide ((k:Int)<(ml:Int))=false:=by simp;omega
   have hz2:¬(k:Int)<(ml:Int):=by omega
   have RG:=hdn (HG.out.1 ⟨HH.out.1,fun i hi=>hgd rfl i (by have:=HH.out.2.2;omega)⟩)
   clear hgd hbd hb qb qc hbr qbr qcr
   go_wp2
   go_ret
   exact⟨by rw[RG.out];rfl,hbw⟩
theorem refCheck_few (h v u x t n:Int)(D DD XD UD VD ml Lc lN:Nat)(La:Option Addr)(E L N O:SL)(Y U Dn:Nat→Nat→SL)(m:ModV)(w:World)(RES:Int)(e1:v*(D:Int)=(VD:Int))(e2:(D:Int)*(D:Int)=(DD:Int))(e3:x*(D:Int)=(XD:Int))(e4:u*(D:Int)=(UD:Int))(e5:(D:Int)*u=(UD:Int))(xlt:x<1)
  (bD:D≤8) (bVD:VD≤1000) (bDD:DD≤1000) (bXD:XD≤1000) (bUD:UD≤1000) (hL:L=⟨La,ml,Lc⟩) (hM:ModAt w E L N O Y U Dn m) (hmx:ml≤9223372036854775807)
  (k10:∀ W,Calls Tryz.prog 36 #[.agg #[.int .i64 (D:Int),.int .i64 h,.int .i64 (lN:Int),.int .i64 v,.int .i64 u,.int .i64 x,.int .i64 t,.int .i64 n]] W fun e w'=>e=.returned (.bool true)∧Below W.heap.size W w') (hgood:AllR lN D DD XD UD VD 1 m→RES=0) (hbad:¬AllR lN D DD XD UD VD 1 m→RES=21) :
  Calls Tryz.prog 50 #[.agg #[.int .i64 (D:Int),.int .i64 h,.int .i64 (lN:Int),.int .i64 v,.int .i64 u,.int .i64 x,.int .i64 t,.int .i64 n,.slice E.a E.n E.c,.slice La ml Lc,.slice N.a N.n N.c,.slice O.a O.n O.c]] w fun e w'=>e=.returned (.int .i64 RES)∧Below w.heap.size w w':=by
 have main:=refCheck_few_main h v u x t n D DD XD UD VD ml Lc lN La E L N O Y U Dn m w RES e1 e2 e3 e4 e5 xlt bD bVD bDD bXD bUD hL hM hmx k10 hgood hbad
 have eml:m.ln=ml:=by have:=hM.len;rw[hL] at this;exact this.symm
 have hb:=bNw (bNw (Below.refl w.heap.size w) (.cells #[.int .i64 (D:Int),.int .i64 h,.int .i64 (lN:Int),.int .i64 v,.int .i64 u,.int .i64 x,.int .i64 t,.int .i64 n,.slice E.a E.n E.c,.slice La ml Lc,.slice N.a N.n N.c,.slice O.a O.n O.c] 27)) (.cells #[.int .i64 (D:Int),.int .i64 h,.int .i64 (lN:Int),.int .i64 v,.int .i64 u,.int .i64 x,.int .i64 t,.int .i64 n] 23)
 have qb:Blk 27 ((w.alloc (.cells #[.int .i64 (D:Int),.int .i64 h,.int .i64 (lN:Int),.int .i64 v,.int .i64 u,.int .i64 x,.int .i64 t,.int .i64 n,.slice E.a E.n E.c,.slice La ml Lc,.slice N.a N.n N.c,.slice O.a O.n O.c] 27)).alloc (.cells #[.int .i64 (D:Int),.int .i64 h,.int .i64 (lN:Int),.int .i64 v,.int .i64 u,.int .i64 x,.int .i64 t,.int .i64 n] 23)) w.heap.size #[.int .i64 (D:Int),.int .i64 h,.int .i64 (lN:Int),.int .i64 v,.int .i64 u,.int .i64 x,.int .i64 t,.int .i64 n,.slice E.a E.n E.c,.slice La ml Lc,.slice N.a N.n N.c,.slice O.a O.n O.c]:=(Blk.new 27 w _).kept (bNw (Below.refl _ _) _)
 have qc:Blk 23 ((w.alloc (.cells #[.int .i64 (D:Int),.int .i64 h,.int .i64 (lN:Int),.int .i64 v,.int .i64 u,.int .i64 x,.int .i64 t,.int .i64 n,.slice E.a E.n E.c,.slice La ml Lc,.slice N.a N.n N.c,.slice O.a O.n O.c] 27)).alloc (.cells #[.int .i64 (D:Int),.int .i64 h,.int .i64 (lN:Int),.int .i64 v,.int .i64 u,.int .i64 x,.int .i64 t,.int .i64 n] 23)) (w.heap.size+1) #[.int .i64 (D:Int),.int .i64 h,.int .i64 (lN:Int),.int .i64 v,.int .i64 u,.int .i64 x,.int .i64 t,.int .i64 n]:=Blk.new_at 23 (w.alloc _) _ _ (by simp)
 obtain⟨a0,a1,a2,a3,a4,a5,a6,a7,a8,a9,a10,a11⟩:=qb.c12
 obtain⟨b0,b1,b2,b3,b4,b5,b6,b7⟩:=qc.cfg
 cases t0:((ml:Int)==(lN:Int)) with
 | false =>
  clear main
  have RB:=hdn (hbad (fun a=>by have q:=a.1.1;have:(ml:Int)≠(lN:Int):=(by simpa using t0);omega))
  clear hbad hgood hM hL eml
  by_cases hz:0<ml
  ·have hz':decide ((0:Int)<(ml:Int))=true:=by simp;omega
   have hz2:(0:Int)<(ml:Int):=by omega
   go_enter Tryz.func50,Tryz.ntmps50
   go_wp2_with (first
    | (go_at_call 36;refine (k10 _).mono ?_;rintro e W1 ⟨rfl,h1⟩;replace qb:=qb.kept h1;replace qc:=qc.kept h1;replace hb:=bTn hb h1;clear h1 a0 a1 a2 a3 a4 a5 a6 a7 a8 a9 a10 a11 b0 b1 b2 b3 b4 b5 b6 b7;obtain⟨a0,a1,a2,a3,a4,a5,a6,a7,a8,a9,a10,a11⟩:=qb.c12;obtain⟨b0,b1,b2,b3,b4,b5,b6,b7⟩:=qc.cfg))
   refine wp_loop_rounds 1 ?_
   rw[rounds_succ]
   go_wp2
   go_ret
   exact⟨by rw[RB.out];rfl,hb⟩
  ·have hz':decide ((0:Int)<(ml:Int))=false:=by simp;omega
   have hz2:¬(0:Int)<(ml:Int):=by omega
   go_enter Tryz.func50,Tryz.ntmps50
   go_wp2_with (first
    | (go_at_call 36;refine (k10 _).mono ?_;rintro e W1 ⟨rfl,h1⟩;replace qb:=qb.kept h1;replace qc:=qc.kept h1;replace hb:=bTn hb h1;clear h1 a0 a1 a2 a3 a4 a5 a6 a7 a8 a9 a10 a11 b0 b1 b2 b3 b4 b5 b6 b7;obtain⟨a0,a1,a2,a3,a4,a5,a6,a7,a8,a9,a10,a11⟩:=qb.c12;obtain⟨b0,b1,b2,b3,b4,b5,b6,b7⟩:=qc.cfg))
   refine wp_loop_rounds 1 ?_
   rw[rounds_succ]
   go_wp2
   go_ret
   exact⟨by rw[RB.out];rfl,hb⟩
 | true =>
 cases t1:((E.n:Int)==(VD:Int)) with
 | false =>
  clear main
  have RB:=hdn (hbad (fun a=>by have:=a.1.2.1;have:=hM.e.reads.len;have:(E.n:Int)≠(VD:Int):=(by simpa using t1);omega))
  clear hbad hgood hM hL eml
  by_cases hz:0<ml
  ·have hz':decide ((0:Int)<(ml:Int))=true:=by simp;omega
   have hz2:(0:Int)<(ml:Int):=by omega
   go_enter Tryz.func50,Tryz.ntmps50
   go_wp2_with (first
    | (go_at_call 36;refine (k10 _).mono ?_;rintro e W1 ⟨rfl,h1⟩;replace qb:=qb.kept h1;replace qc:=qc.kept h1;replace hb:=bTn hb h1;clear h1 a0 a1 a2 a3 a4 a5 a6 a7 a8 a9 a10 a11 b0 b1 b2 b3 b4 b5 b6 b7;obtain⟨a0,a1,a2,a3,a4,a5,a6,a7,a8,a9,a10,a11⟩:=qb.c12;obtain⟨b0,b1,b2,b3,b4,b5,b6,b7⟩:=qc.cfg))
   refine wp_loop_rounds 1 ?_
   rw[rounds_succ]
   go_wp2
   go_ret
   exact⟨by rw[RB.out];rfl,hb⟩
  ·have hz':decide ((0:Int)<(ml:Int))=false:=by simp;omega
   have hz2:¬(0:Int)<(ml:Int):=by omega
   go_enter Tryz.func50,Tryz.ntmps50
   go_wp2_with (first
    | (go_at_call 36;refine (k10 _).mono ?_;rintro e W1 ⟨rfl,h1⟩;replace qb:=qb.kept h1;replace qc:=qc.kept h1;replace hb:=bTn hb h1;clear h1 a0 a1 a2 a3 a4 a5 a6 a7 a8 a9 a10 a11 b0 b1 b2 b3 b4 b5 b6 b7;obtain⟨a0,a1,a2,a3,a4,a5,a6,a7,a8,a9,a10,a11⟩:=qb.c12;obtain⟨b0,b1,b2,b3,b4,b5,b6,b7⟩:=qc.cfg))
   refine wp_loop_rounds 1 ?_
   rw[rounds_succ]
   go_wp2
   go_ret
   exact⟨by rw[RB.out];rfl,hb⟩
 | true =>
 cases t2:((N.n:Int)==(D:Int)) with
 | false =>
  clear main
  have RB:=hdn (hbad (fun a=>by have:=a.1.2.2.1;have:=hM.nm.reads.len;have:(N.n:Int)≠(D:Int):=(by simpa using t2);omega))
  clear hbad hgood hM hL eml
  by_cases hz:0<ml
  ·have hz':decide ((0:Int)<(ml:Int))=true:=by simp;omega
   have hz2:(0:Int)<(ml:Int):=by omega
   go_enter Tryz.func50,Tryz.ntmps50
   go_wp2_with (first
    | (go_at_call 36;refine (k10 _).mono ?_;rintro e W1 ⟨rfl,h1⟩;replace qb:=qb.kept h1;replace qc:=qc.kept h1;replace hb:=bTn hb h1;clear h1 a0 a1 a2 a3 a4 a5 a6 a7 a8 a9 a10 a11 b0 b1 b2 b3 b4 b5 b6 b7;obtain⟨a0,a1,a2,a3,a4,a5,a6,a7,a8,a9,a10,a11⟩:=qb.c12;obtain⟨b0,b1,b2,b3,b4,b5,b6,b7⟩:=qc.cfg))
   refine wp_loop_rounds 1 ?_
   rw[rounds_succ]
   go_wp2
   go_ret
   exact⟨by rw[RB.out];rfl,hb⟩
  ·have hz':decide ((0:Int)<(ml:Int))=false:=by simp;omega
   have hz2:¬(0:Int)<(ml:Int):=by omega
   go_enter Tryz.func50,Tryz.ntmps50
   go_wp2_with (first
    | (go_at_call 36;refine (k10 _).mono ?_;rintro e W1 ⟨rfl,h1⟩;replace qb:=qb.kept h1;replace qc:=qc.kept h1;replace hb:=bTn hb h1;clear h1 a0 a1 a2 a3 a4 a5 a6 a7 a8 a9 a10 a11 b0 b1 b2 b3 b4 b5 b6 b7;obtain⟨a0,a1,a2,a3,a4,a5,a6,a7,a8,a9,a10,a11⟩:=qb.c12;obtain⟨b0,b1,b2,b3,b4,b5,b6,b7⟩:=qc.cfg))
   refine wp_loop_rounds 1 ?_
   rw[rounds_succ]
   go_wp2
   go_ret
   exact⟨by rw[RB.out];rfl,hb⟩
 | true =>
 cases t3:((O.n:Int)==(VD:Int)) with
 | false =>
  clear main
  have RB:=hdn (hbad (fun a=>by have:=a.1.2.2.2;have:=hM.o.reads.len;have:(O.n:Int)≠(VD:Int):=(by simpa using t3);omega))
  clear hbad hgood hM hL eml
  by_cases hz:0<ml
  ·have hz':decide ((0:Int)<(ml:Int))=true:=by simp;omega
   have hz2:(0:Int)<(ml:Int):=by omega
   go_enter Tryz.func50,Tryz.ntmps50
   go_wp2_with (first
    | (go_at_call 36;refine (k10 _).mono ?_;rintro e W1 ⟨rfl,h1⟩;replace qb:=qb.kept h1;replace qc:=qc.kept h1;replace hb:=bTn hb h1;clear h1 a0 a1 a2 a3 a4 a5 a6 a7 a8 a9 a10 a11 b0 b1 b2 b3 b4 b5 b6 b7;obtain⟨a0,a1,a2,a3,a4,a5,a6,a7,a8,a9,a10,a11⟩:=qb.c12;obtain⟨b0,b1,b2,b3,b4,b5,b6,b7⟩:=qc.cfg))
   refine wp_loop_rounds 1 ?_
   rw[rounds_succ]
   go_wp2
   go_ret
   exact⟨by rw[RB.out];rfl,hb⟩
  ·have hz':decide ((0:Int)<(ml:Int))=false:=by simp;omega
   have hz2:¬(0:Int)<(ml:Int):=by omega
   go_enter Tryz.func50,Tryz.ntmps50
   go_wp2_with (first
    | (go_at_call 36;refine (k10 _).mono ?_;rintro e W1 ⟨rfl,h1⟩;replace qb:=qb.kept h1;replace qc:=qc.kept h1;replace hb:=bTn hb h1;clear h1 a0 a1 a2 a3 a4 a5 a6 a7 a8 a9 a10 a11 b0 b1 b2 b3 b4 b5 b6 b7;obtain⟨a0,a1,a2,a3,a4,a5,a6,a7,a8,a9,a10,a11⟩:=qb.c12;obtain⟨b0,b1,b2,b3,b4,b5,b6,b7⟩:=qc.cfg))
   refine wp_loop_rounds 1 ?_
   rw[rounds_succ]
   go_wp2
   go_ret
   exact⟨by rw[RB.out];rfl,hb⟩
 | true =>
 exact main ⟨by have:(ml:Int)=(lN:Int):=(by simpa using t0);omega,by have:=hM.e.reads.len;have:(E.n:Int)=(VD:Int):=(by simpa using t1);omega,by have:=hM.nm.reads.len;have:(N.n:Int)=(D:Int):=(by simpa using t2);omega,by have:=hM.o.reads.len;have:(O.n:Int)=(VD:Int):=(by simpa using t3);omega⟩ t0 t1 t2 t3
theorem refCheck_many_main (h v u t n:Int)(D DD XD UD VD ne ml Lc lN:Nat)(La:Option Addr)(E L N O:SL)(Y U Dn:Nat→Nat→SL)(m:ModV)(w:World)(RES:Int)(e1:v*(D:Int)=(VD:Int))(e2:(D:Int)*(D:Int)=(DD:Int))(e3:(ne:Int)*(D:Int)=(XD:Int))(e4:u*(D:Int)=(UD:Int))(e5:(D:Int)*u=(UD:Int))(xlt:1<(ne:Int))(n1:ne≤4)
  (bD:D≤8) (bVD:VD≤1000) (bDD:DD≤1000) (bXD:XD≤1000) (bUD:UD≤1000) (hL:L=⟨La,ml,Lc⟩) (hM:ModAt w E L N O Y U Dn m) (hmx:ml≤9223372036854775807)
  (k10:∀ W,Calls Tryz.prog 36 #[.agg #[.int .i64 (D:Int),.int .i64 h,.int .i64 (lN:Int),.int .i64 v,.int .i64 u,.int .i64 (ne:Int),.int .i64 t,.int .i64 n]] W fun e w'=>e=.returned (.bool true)∧Below W.heap.size W w') (hgood:AllR lN D DD XD UD VD ne m→RES=0) (hbad:¬AllR lN D DD XD UD VD ne m→RES=21)
  (p0:P0 lN D VD m) (t0:((ml:Int)==(lN:Int))=true) (t1:((E.n:Int)==(VD:Int))=true) (t2:((N.n:Int)==(D:Int))=true) (t3:((O.n:Int)==(VD:Int))=true) :
  Calls Tryz.prog 50 #[.agg #[.int .i64 (D:Int),.int .i64 h,.int .i64 (lN:Int),.int .i64 v,.int .i64 u,.int .i64 (ne:Int),.int .i64 t,.int .i64 n,.slice E.a E.n E.c,.slice La ml Lc,.slice N.a N.n N.c,.slice O.a O.n O.c]] w fun e w'=>e=.returned (.int .i64 RES)∧Below w.heap.size w w':=by
 have eml:m.ln=ml:=by have:=hM.len;rw[hL] at this;exact this.symm
 have hb:=bNw (bNw (Below.refl w.heap.size w) (.cells #[.int .i64 (D:Int),.int .i64 h,.int .i64 (lN:Int),.int .i64 v,.int .i64 u,.int .i64 (ne:Int),.int .i64 t,.int .i64 n,.slice E.a E.n E.c,.slice La ml Lc,.slice N.a N.n N.c,.slice O.a O.n O.c] 27)) (.cells #[.int .i64 (D:Int),.int .i64 h,.int .i64 (lN:Int),.int .i64 v,.int .i64 u,.int .i64 (ne:Int),.int .i64 t,.int .i64 n] 23)
 have qb:Blk 27 ((w.alloc (.cells #[.int .i64 (D:Int),.int .i64 h,.int .i64 (lN:Int),.int .i64 v,.int .i64 u,.int .i64 (ne:Int),.int .i64 t,.int .i64 n,.slice E.a E.n E.c,.slice La ml Lc,.slice N.a N.n N.c,.slice O.a O.n O.c] 27)).alloc (.cells #[.int .i64 (D:Int),.int .i64 h,.int .i64 (lN:Int),.int .i64 v,.int .i64 u,.int .i64 (ne:Int),.int .i64 t,.int .i64 n] 23)) w.heap.size #[.int .i64 (D:Int),.int .i64 h,.int .i64 (lN:Int),.int .i64 v,.int .i64 u,.int .i64 (ne:Int),.int .i64 t,.int .i64 n,.slice E.a E.n E.c,.slice La ml Lc,.slice N.a N.n N.c,.slice O.a O.n O.c]:=(Blk.new 27 w _).kept (bNw (Below.refl _ _) _)
 have qc:Blk 23 ((w.alloc (.cells #[.int .i64 (D:Int),.int .i64 h,.int .i64 (lN:Int),.int .i64 v,.int .i64 u,.int .i64 (ne:Int),.int .i64 t,.int .i64 n,.slice E.a E.n E.c,.slice La ml Lc,.slice N.a N.n N.c,.slice O.a O.n O.c] 27)).alloc (.cells #[.int .i64 (D:Int),.int .i64 h,.int .i64 (lN:Int),.int .i64 v,.int .i64 u,.int .i64 (ne:Int),.int .i64 t,.int .i64 n] 23)) (w.heap.size+1) #[.int .i64 (D:Int),.int .i64 h,.int .i64 (lN:Int),.int .i64 v,.int .i64 u,.int .i64 (ne:Int),.int .i64 t,.int .i64 n]:=Blk.new_at 23 (w.alloc _) _ _ (by simp)
 obtain⟨a0,a1,a2,a3,a4,a5,a6,a7,a8,a9,a10,a11⟩:=qb.c12
 obtain⟨b0,b1,b2,b3,b4,b5,b6,b7⟩:=qc.cfg
 have HH:=hdn (And.intro p0 (And.intro hM eml))
 have HL:=hdn (show L.a=La by rw[hL])
 have HG:=hdn (And.intro hgood hbad)
 clear p0 hM eml hL hgood hbad
 go_enter Tryz.func50,Tryz.ntmps50
 go_wp2_with (first
  | (go_at_call 36;refine (k10 _).mono ?_;rintro e W1 ⟨rfl,h1⟩;replace qb:=qb.kept h1;replace qc:=qc.kept h1;replace hb:=bTn hb h1;clear h1 a0 a1 a2 a3 a4 a5 a6 a7 a8 a9 a10 a11 b0 b1 b2 b3 b4 b5 b6 b7;obtain⟨a0,a1,a2,a3,a4,a5,a6,a7,a8,a9,a10,a11⟩:=qb.c12;obtain⟨b0,b1,b2,b3,b4,b5,b6,b7⟩:=qc.cfg))
 have HB0:=hdn (And.intro hb (And.intro qb qc))
 clear hb a0 a1 a2 a3 a4 a5 a6 a7 a8 a9 a10 a11 b0 b1 b2 b3 b4 b5 b6 b7 t0 t1 t2 t3 qb qc
 go_loopw [5,7,8,9] (fun vb i _ _ wr=>∃ (b:Bool) (k:Nat),k≤ml∧vb=.bool b∧i=.int .i64 k∧Below W1.heap.size W1 wr∧(b=true→∀ j,j<k→Ly D DD XD ne m j∧∀ j',j'<ne→Nt UD m j j')∧(b=false→¬AllR lN D DD XD UD VD ne m)) (fun _ i _ _ _=>ml-(intOf i).toNat)
 case atStart=>exact⟨true,0,Nat.zero_le _,rfl,rfl,Below.refl _ _,(fun _ j hj=>absurd hj (by omega)),(fun h=>by cases h)⟩
 case round =>
  obtain⟨b,k,hk,rfl,rfl,hbr,hgd,hbd⟩:=hrel
  obtain⟨WR,eWR⟩:∃ WR,WR=wr:=⟨_,rfl⟩
  subst eWR
  obtain⟨hb,qb,qc⟩:=HB0.out
  have hbw:=bTn hb hbr
  have qbr:=qb.kept hbr
  have qcr:=qc.kept hbr
  obtain⟨a0,a1,a2,a3,a4,a5,a6,a7,a8,a9,a10,a11⟩:=qbr.c12
  obtain⟨b0,b1,b2,b3,b4,b5,b6,b7⟩:=qcr.cfg
  cases b with
  | false =>
   have RB:=hdn (HG.out.2 (hbd rfl))
   clear hgd hbd hb qb qc hbr qbr qcr
   by_cases hlt:k<ml
   ·have hz':decide ((k:Int)<(ml:Int))=true:=by simp;omega
    have hz2:(k:Int)<(ml:Int):=by omega
    go_wp2
    go_ret
    exact⟨by rw[RB.out];rfl,hbw⟩
   ·have hz':decide ((k:Int)<(ml:Int))=false:=by simp;omega
    have hz2:¬(k:Int)<(ml:Int):=by omega
    go_wp2
    go_ret
    exact⟨by rw[RB.out];rfl,hbw⟩
  | true =>
  by_cases hlt:k<ml
  ·have hz':decide ((k:Int)<(ml:Int))=true:=by simp;omega
   have hz2:(k:Int)<(ml:Int):=by omega
   obtain⟨P0',hM',eml'⟩:=HH.out
   have hMr:=hM'.below hbw
   have hkm:k<m.ln:=by omega
   obtain⟨x0,hx0⟩:=hMr.some_ (by omega)
   obtain rfl:La=some x0:=by rw[←hx0,HL.out]
   have LA:=hMr.lay k hkm
   obtain⟨P,eP,p0,p1,p2,p3,p4,p5,p6,p7,p8⟩:=at_nine (fun j hj=>hMr.cell x0 hx0 k hkm j hj)
   obtain⟨A,eA⟩:∃ A,WR.alloc (.cells #[.slice (Y k 0).a (Y k 0).n (Y k 0).c,.slice (Y k 1).a (Y k 1).n (Y k 1).c,.slice (Y k 2).a (Y k 2).n (Y k 2).c,.slice (Y k 3).a (Y k 3).n (Y k 3).c,.slice (Y k 4).a (Y k 4).n (Y k 4).c,.slice (Y k 5).a (Y k 5).n (Y k 5).c,.slice (Y k 6).a (Y k 6).n (Y k 6).c,.slice (Y k 7).a (Y k 7).n (Y k 7).c,.slice (Y k 8).a (Y k 8).n (Y k 8).c] 65)=A:=⟨_,rfl⟩
   have bA:Below WR.heap.size WR A:=eA ▸ bNw (Below.refl _ _) _
   have gA:Blk 65 A WR.heap.size #[.slice (Y k 0).a (Y k 0).n (Y k 0).c,.slice (Y k 1).a (Y k 1).n (Y k 1).c,.slice (Y k 2).a (Y k 2).n (Y k 2).c,.slice (Y k 3).a (Y k 3).n (Y k 3).c,.slice (Y k 4).a (Y k 4).n (Y k 4).c,.slice (Y k 5).a (Y k 5).n (Y k 5).c,.slice (Y k 6).a (Y k 6).n (Y k 6).c,.slice (Y k 7).a (Y k 7).n (Y k 7).c,.slice (Y k 8).a (Y k 8).n (Y k 8).c]:=eA ▸ Blk.new 65 WR _
   have qbA:=qbr.kept bA
   have qcA:=qcr.kept bA
   obtain⟨d0,d1,d2,d3,d4,d5,d6,d7⟩:=qcA.cfg
   have c0:=gA.cell 0 rfl
   have c1:=gA.cell 1 rfl
   have c2:=gA.cell 2 rfl
   have c3:=gA.cell 3 rfl
   have c4:=gA.cell 4 rfl
   have c5:=gA.cell 5 rfl
   have c6:=gA.cell 6 rfl
   have c7:=gA.cell 7 rfl
   have c8:=gA.cell 8 rfl
   have hbA:=bTn hbr bA
   have HX:=hdn (And.intro hgd (And.intro hbA (And.intro qbA (And.intro qcA (And.intro gA (LA.below bA))))))
   clear hMr hM' P0' eml' hgd hbd hb qb qc hbr qbr qcr hbw qbA qcA hx0 gA bA hbA
   have LYK:Hid (lyC D DD XD (ne:Int) (Y k)=lyC D DD XD (ne:Int) (Y k)∧(bk (lyC D DD XD (ne:Int) (Y k)) 8=true→Ly D DD XD ne m k∧(Y k 7).n=ne∧(Y k 8).n=ne)):=⟨rfl,fun hb=>by
    have H:=bk_all.1 hb
    have y0:((Y k 0).n:Int)=(D:Int):=(by simpa [lyC] using H 0 (by omega))
    have y1:((Y k 1).n:Int)=(DD:Int):=(by simpa [lyC] using H 1 (by omega))
    have y2:((Y k 2).n:Int)=(DD:Int):=(by simpa [lyC] using H 2 (by omega))
    have y3:((Y k 3).n:Int)=(DD:Int):=(by simpa [lyC] using H 3 (by omega))
    have y4:((Y k 4).n:Int)=(DD:Int):=(by simpa [lyC] using H 4 (by omega))
    have y5:((Y k 5).n:Int)=(D:Int):=(by simpa [lyC] using H 5 (by omega))
    have y6:((Y k 6).n:Int)=(XD:Int):=(by simpa [lyC] using H 6 (by omega))
    have y7:((Y k 7).n:Int)=(ne:Int):=(by simpa [lyC] using H 7 (by omega))
    have y8:((Y k 8).n:Int)=(ne:Int):=(by simpa [lyC] using H 8 (by omega))
    have z0:=(LA.f 0 (by omega)).reads.len
    have z1:=(LA.f 1 (by omega)).reads.len
    have z2:=(LA.f 2 (by omega)).reads.len
    have z3:=(LA.f 3 (by omega)).reads.len
    have z4:=(LA.f 4 (by omega)).reads.len
    have z5:=(LA.f 5 (by omega)).reads.len
    have z6:=(LA.f 6 (by omega)).reads.len
    have z7:=LA.u.len
    have z8:=LA.d.len
    refine⟨⟨fun r hr=>?_,by omega,by omega⟩,by omega,by omega⟩
    rcases (show r=0∨r=1∨r=2∨r=3∨r=4∨r=5∨r=6 by omega) with rfl|rfl|rfl|rfl|rfl|rfl|rfl
    ·show _=D;omega
    ·show _=DD;omega
    ·show _=DD;omega
    ·show _=DD;omega
    ·show _=DD;omega
    ·show _=D;omega
    ·show _=XD;omega⟩
   have LNO:Hid (bk (lyC D DD XD (ne:Int) (Y k)) 8=false→¬AllR lN D DD XD UD VD ne m):=fun hb a=>by
    have:=HH.out.2.2
    have LY:=(a.2 k (by omega)).1
    have f0:(m.f k 0).length=D:=LY.1 0 (by omega)
    have f1:(m.f k 1).length=DD:=LY.1 1 (by omega)
    have f2:(m.f k 2).length=DD:=LY.1 2 (by omega)
    have f3:(m.f k 3).length=DD:=LY.1 3 (by omega)
    have f4:(m.f k 4).length=DD:=LY.1 4 (by omega)
    have f5:(m.f k 5).length=D:=LY.1 5 (by omega)
    have f6:(m.f k 6).length=XD:=LY.1 6 (by omega)
    have f7:=LY.2.1
    have f8:=LY.2.2
    have z0:=(LA.f 0 (by omega)).reads.len
    have z1:=(LA.f 1 (by omega)).reads.len
    have z2:=(LA.f 2 (by omega)).reads.len
    have z3:=(LA.f 3 (by omega)).reads.len
    have z4:=(LA.f 4 (by omega)).reads.len
    have z5:=(LA.f 5 (by omega)).reads.len
    have z6:=(LA.f 6 (by omega)).reads.len
    have z7:=LA.u.len
    have z8:=LA.d.len
    have:bk (lyC D DD XD (ne:Int) (Y k)) 8=true:=bk_all.2 fun i hi=>by
     rcases (show i=0∨i=1∨i=2∨i=3∨i=4∨i=5∨i=6∨i=7∨i=8 by omega) with rfl|rfl|rfl|rfl|rfl|rfl|rfl|rfl|rfl<;>(simp[lyC];omega)
    rw[hb] at this
    cases this
   clear LA
   have HX2:=HX.out
   go_upto_region 11 with fail
   clear c0 c1 c2 c3 c4 c5 c6 c7 c8 d0 d1 d2 d3 d4 d5 d6 d7 a0 a1 a2 a3 a4 a5 a6 a7 a8 a9 a10 a11 b0 b1 b2 b3 b4 b5 b6 b7 p0 p1 p2 p3 p4 p5 p6 p7 p8
   refine layer_region h (lN:Int) v u (ne:Int) t n D DD XD (ne:Int) (w.heap.size+1) WR.heap.size (Y k) (lyC D DD XD (ne:Int) (Y k)) SL.nought SL.nought SL.nought rfl (fun w=>by go_simp;exact wrap_fits (by omega) (by omega)) (fun w=>by go_simp;exact wrap_fits (by omega) (by omega)) ⟨rfl,rfl,rfl,rfl,rfl,rfl,rfl,rfl,rfl⟩ HX2.2.2.2.2.1 HX2.2.2.2.1 rfl rfl rfl rfl (Nat.le_of_ble_eq_true rfl) ?_
   intro a wA hs hd hkp v5 eA'
   have eA2:=eA'.symm
   subst eA2
   have ep:=fPu [68,69,70,71,72,73,74,75,76,77,78,79,80,81,82,83,84,85,86,87,88,89,90,91,92,93,94,95,96,97,98,99,100,101,102,103,104,105,106,107,108,109,110,111,112,113,114,115,116,117,118,119,120,121,122,123,124,125,126,127,128,129,130,131,132,133,134,135,136,137,138,139,5] hs hd (fun s h'=>hkp s (lyD_out h'))
   simp only[List.foldl] at ep
   rw[v5] at ep
   clear hs hd hkp v5 HX2
   generalize a.tmps.getD 68 undef=g68,a.tmps.getD 69 undef=g69,a.tmps.getD 70 undef=g70,a.tmps.getD 71 undef=g71,a.tmps.getD 72 undef=g72,a.tmps.getD 73 undef=g73,a.tmps.getD 74 undef=g74,a.tmps.getD 75 undef=g75,a.tmps.getD 76 undef=g76,a.tmps.getD 77 undef=g77,a.tmps.getD 78 undef=g78,a.tmps.getD 79 undef=g79,a.tmps.getD 80 undef=g80,a.tmps.getD 81 undef=g81,a.tmps.getD 82 undef=g82,a.tmps.getD 83 undef=g83,a.tmps.getD 84 undef=g84,a.tmps.getD 85 undef=g85,a.tmps.getD 86 undef=g86,a.tmps.getD 87 undef=g87,a.tmps.getD 88 undef=g88,a.tmps.getD 89 undef=g89,a.tmps.getD 90 undef=g90,a.tmps.getD 91 undef=g91,a.tmps.getD 92 undef=g92,a.tmps.getD 93 undef=g93,a.tmps.getD 94 undef=g94,a.tmps.getD 95 undef=g95,a.tmps.getD 96 undef=g96,a.tmps.getD 97 undef=g97,a.tmps.getD 98 undef=g98,a.tmps.getD 99 undef=g99,a.tmps.getD 100 undef=g100,a.tmps.getD 101 undef=g101,a.tmps.getD 102 undef=g102,a.tmps.getD 103 undef=g103,a.tmps.getD 104 undef=g104,a.tmps.getD 105 undef=g105,a.tmps.getD 106 undef=g106,a.tmps.getD 107 undef=g107,a.tmps.getD 108 undef=g108,a.tmps.getD 109 undef=g109,a.tmps.getD 110 undef=g110,a.tmps.getD 111 undef=g111,a.tmps.getD 112 undef=g112,a.tmps.getD 113 undef=g113,a.tmps.getD 114 undef=g114,a.tmps.getD 115 undef=g115,a.tmps.getD 116 undef=g116,a.tmps.getD 117 undef=g117,a.tmps.getD 118 undef=g118,a.tmps.getD 119 undef=g119,a.tmps.getD 120 undef=g120,a.tmps.getD 121 undef=g121,a.tmps.getD 122 undef=g122,a.tmps.getD 123 undef=g123,a.tmps.getD 124 undef=g124,a.tmps.getD 125 undef=g125,a.tmps.getD 126 undef=g126,a.tmps.getD 127 undef=g127,a.tmps.getD 128 undef=g128,a.tmps.getD 129 undef=g129,a.tmps.getD 130 undef=g130,a.tmps.getD 131 undef=g131,a.tmps.getD 132 undef=g132,a.tmps.getD 133 undef=g133,a.tmps.getD 134 undef=g134,a.tmps.getD 135 undef=g135,a.tmps.getD 136 undef=g136,a.tmps.getD 137 undef=g137,a.tmps.getD 138 undef=g138,a.tmps.getD 139 undef=g139 at ep
   simp only[Act.put,List.setIfInBounds_toArray,List.set_cons_succ,List.set_cons_zero] at ep
   subst ep
   obtain⟨BB,eBB⟩:∃ BB,bk (lyC D DD XD (ne:Int) (Y k)) 8=BB:=⟨_,rfl⟩
   rw[eBB] at LYK LNO ⊢
   go_wp2
   clear eA
   obtain⟨lb,elb⟩:∃ lb,WR.heap.size=lb:=⟨_,rfl⟩
   rw[elb] at HX ⊢
   clear elb eBB
   go_loopw [5,9] (fun vb j wr=>∃ (b:Bool) (q:Nat),q≤ne∧vb=.bool b∧j=.int .i64 q∧Below A.heap.size A wr∧(b=true→BB=true∧∀ j',j'<q→Nt UD m k j')∧(b=false→¬AllR lN D DD XD UD VD ne m)) (fun _ j _=>ne-(intOf j).toNat)
   case atStart=>exact⟨BB,0,Nat.zero_le _,rfl,rfl,Below.refl _ _,(fun h=>⟨h,fun j hj=>absurd hj (by omega)⟩),LNO.out⟩
   case round =>
    obtain⟨b,q,hq,rfl,rfl,hbq,hgd2,hbd2⟩:=hrel
    obtain⟨hgd,hbA,qbA,qcA,gA,LA⟩:=HX.out
    have hbF:=bTn hbA hbq
    cases b with
    | false =>
     have BAD:=hdn (hbd2 rfl)
     clear hgd hbA qbA qcA gA LA hgd2 hbd2 hbq
     by_cases hl2:q<ne
     ·have hz3:decide ((q:Int)<(ne:Int))=true:=by simp;omega
      have hz4:(q:Int)<(ne:Int):=by omega
      go_wp2
      go_roundw
      case rel=>exact⟨false,k+1,by omega,rfl,by go_num,hbF,(fun h=>by cases h),fun _=>BAD.out⟩
      case measure=>simp[intOf];omega
     ·have hz3:decide ((q:Int)<(ne:Int))=false:=by simp;omega
      have hz4:¬(q:Int)<(ne:Int):=by omega
      go_wp2
      go_roundw
      case rel=>exact⟨false,k+1,by omega,rfl,by go_num,hbF,(fun h=>by cases h),fun _=>BAD.out⟩
      case measure=>simp[intOf];omega
    | true =>
    obtain⟨hBB,hgd2⟩:=hgd2 rfl
    have LEN:=hdn (LYK.out.2 hBB)
    have hgd3:BB=true:=hBB
    clear hBB
    have HBB:=hdn hgd3
    clear hgd3
    by_cases hl2:q<ne
    ·have hz3:decide ((q:Int)<(ne:Int))=true:=by simp;omega
     have hz4:(q:Int)<(ne:Int):=by omega
     have LAq:=LA.below hbq
     have e7:=LEN.out.2.1
     have e8:=LEN.out.2.2
     obtain⟨x7,hx7⟩:=LAq.u.some_ (by have:=LAq.u.len;omega)
     obtain⟨x8,hx8⟩:=LAq.d.some_ (by have:=LAq.d.len;omega)
     have g:=gA.kept hbq
     rw[hx7,hx8,e7,e8] at g
     have c7:=g.cell 7 rfl
     have c8:=g.cell 8 rfl
     obtain⟨d0,d1,d2,d3,d4,d5,d6,d7⟩:=(qcA.kept hbq).cfg
     have cU:wr.cell? (x7.add q)=some (.slice (U k q).a (U k q).n (U k q).c):=LAq.u.cell x7 hx7 q (by have:=LAq.u.len;omega)
     have cD:wr.cell? (x8.add q)=some (.slice (Dn k q).a (Dn k q).n (Dn k q).c):=LAq.d.cell x8 hx8 q (by have:=LAq.d.len;omega)
     have rU:=(LAq.u.row q (by have:=LAq.u.len;omega)).reads.len
     have rD:=(LAq.d.row q (by have:=LAq.d.len;omega)).reads.len
     have HR:=hdn (And.intro rU (And.intro rD hgd2))
     clear LAq LA e7 e8 hx7 hx8 g hgd hbA qbA qcA gA hgd2 hbd2 rU rD
     cases s0:(((U k q).n:Int)==(UD:Int)) with
     | false =>
      have BAD:Hid (¬AllR lN D DD XD UD VD ne m):=fun a=>by have:=HH.out.2.2;have:=((a.2 k (by omega)).2 q hl2).1;have:=HR.out.1;have g:((U k q).n:Int)≠(UD:Int):=(by simpa using s0);omega
      go_wp2
      go_quiet (fail)
      go_wp2
      go_roundw
      case rel=>exact⟨false,q+1,by omega,rfl,by go_num,bDr hbq ⟨_,rfl⟩,(fun h=>by cases h),fun _=>BAD.out⟩
      case measure=>simp[intOf];omega
     | true =>
     cases s1:(((Dn k q).n:Int)==(UD:Int)) with
     | false =>
      have BAD:Hid (¬AllR lN D DD XD UD VD ne m):=fun a=>by have:=HH.out.2.2;have:=((a.2 k (by omega)).2 q hl2).2;have:=HR.out.2.1;have g:((Dn k q).n:Int)≠(UD:Int):=(by simpa using s1);omega
      go_wp2
      go_quiet (fail)
      go_wp2
      go_roundw
      case rel=>exact⟨false,q+1,by omega,rfl,by go_num,bDr hbq ⟨_,rfl⟩,(fun h=>by cases h),fun _=>BAD.out⟩
      case measure=>simp[intOf];omega
     | true =>
      have NTQ:Hid (Nt UD m k q):=⟨by have:=HR.out.1;have g:((U k q).n:Int)=(UD:Int):=(by simpa using s0);omega,by have:=HR.out.2.1;have g:((Dn k q).n:Int)=(UD:Int):=(by simpa using s1);omega⟩
      go_wp2
      go_quiet (fail)
      go_wp2
      go_roundw
      case rel=>exact⟨true,q+1,by omega,rfl,by go_num,bDr hbq ⟨_,rfl⟩,(fun _=>⟨HBB.out,fun j hj=>(Decidable.em (j=q)).elim (fun e=>by rw[e];exact NTQ.out) (fun e=>HR.out.2.2 j (by omega))⟩),(fun h=>by cases h)⟩
      case measure=>simp[intOf];omega
    ·have hz3:decide ((q:Int)<(ne:Int))=false:=by simp;omega
     have hz4:¬(q:Int)<(ne:Int):=by omega
     have eq:q=ne:=by omega
     have GD:=hdn (And.intro hgd (And.intro hgd2 eq))
     clear hgd hbA qbA qcA gA LA hgd2 hbd2 hbq eq
     go_wp2
     go_roundw
     case rel=>exact⟨true,k+1,by omega,rfl,by go_num,hbF,(fun _ j hj=>(Decidable.em (j=k)).elim (fun e=>by rw[e];exact⟨LEN.out.1,fun j' hj'=>GD.out.2.1 j' (by have:=GD.out.2.2;omega)⟩) (fun e=>GD.out.1 (by first|rfl|trivial) j (by omega))),(fun h=>by cases h)⟩
     case measure=>simp[intOf];omega
  ·have hz':decide ((k:Int)<(ml:Int))=false:=by simp;omega
   have hz2:¬(k:Int)<(ml:Int):=by omega
   have RG:=hdn (HG.out.1 ⟨HH.out.1,fun i hi=>hgd rfl i (by have:=HH.out.2.2;omega)⟩)
   clear hgd hbd hb qb qc hbr qbr qcr
   go_wp2
   go_ret
   exact⟨by rw[RG.out];rfl,hbw⟩
theorem refCheck_many (h v u t n:Int)(D DD XD UD VD ne ml Lc lN:Nat)(La:Option Addr)(E L N O:SL)(Y U Dn:Nat→Nat→SL)(m:ModV)(w:World)(RES:Int)(e1:v*(D:Int)=(VD:Int))(e2:(D:Int)*(D:Int)=(DD:Int))(e3:(ne:Int)*(D:Int)=(XD:Int))(e4:u*(D:Int)=(UD:Int))(e5:(D:Int)*u=(UD:Int))(xlt:1<(ne:Int))(n1:ne≤4)
  (bD:D≤8) (bVD:VD≤1000) (bDD:DD≤1000) (bXD:XD≤1000) (bUD:UD≤1000) (hL:L=⟨La,ml,Lc⟩) (hM:ModAt w E L N O Y U Dn m) (hmx:ml≤9223372036854775807)
  (k10:∀ W,Calls Tryz.prog 36 #[.agg #[.int .i64 (D:Int),.int .i64 h,.int .i64 (lN:Int),.int .i64 v,.int .i64 u,.int .i64 (ne:Int),.int .i64 t,.int .i64 n]] W fun e w'=>e=.returned (.bool true)∧Below W.heap.size W w') (hgood:AllR lN D DD XD UD VD ne m→RES=0) (hbad:¬AllR lN D DD XD UD VD ne m→RES=21) :
  Calls Tryz.prog 50 #[.agg #[.int .i64 (D:Int),.int .i64 h,.int .i64 (lN:Int),.int .i64 v,.int .i64 u,.int .i64 (ne:Int),.int .i64 t,.int .i64 n,.slice E.a E.n E.c,.slice La ml Lc,.slice N.a N.n N.c,.slice O.a O.n O.c]] w fun e w'=>e=.returned (.int .i64 RES)∧Below w.heap.size w w':=by
 have main:=refCheck_many_main h v u t n D DD XD UD VD ne ml Lc lN La E L N O Y U Dn m w RES e1 e2 e3 e4 e5 xlt n1 bD bVD bDD bXD bUD hL hM hmx k10 hgood hbad
 have eml:m.ln=ml:=by have:=hM.len;rw[hL] at this;exact this.symm
 have hb:=bNw (bNw (Below.refl w.heap.size w) (.cells #[.int .i64 (D:Int),.int .i64 h,.int .i64 (lN:Int),.int .i64 v,.int .i64 u,.int .i64 (ne:Int),.int .i64 t,.int .i64 n,.slice E.a E.n E.c,.slice La ml Lc,.slice N.a N.n N.c,.slice O.a O.n O.c] 27)) (.cells #[.int .i64 (D:Int),.int .i64 h,.int .i64 (lN:Int),.int .i64 v,.int .i64 u,.int .i64 (ne:Int),.int .i64 t,.int .i64 n] 23)
 have qb:Blk 27 ((w.alloc (.cells #[.int .i64 (D:Int),.int .i64 h,.int .i64 (lN:Int),.int .i64 v,.int .i64 u,.int .i64 (ne:Int),.int .i64 t,.int .i64 n,.slice E.a E.n E.c,.slice La ml Lc,.slice N.a N.n N.c,.slice O.a O.n O.c] 27)).alloc (.cells #[.int .i64 (D:Int),.int .i64 h,.int .i64 (lN:Int),.int .i64 v,.int .i64 u,.int .i64 (ne:Int),.int .i64 t,.int .i64 n] 23)) w.heap.size #[.int .i64 (D:Int),.int .i64 h,.int .i64 (lN:Int),.int .i64 v,.int .i64 u,.int .i64 (ne:Int),.int .i64 t,.int .i64 n,.slice E.a E.n E.c,.slice La ml Lc,.slice N.a N.n N.c,.slice O.a O.n O.c]:=(Blk.new 27 w _).kept (bNw (Below.refl _ _) _)
 have qc:Blk 23 ((w.alloc (.cells #[.int .i64 (D:Int),.int .i64 h,.int .i64 (lN:Int),.int .i64 v,.int .i64 u,.int .i64 (ne:Int),.int .i64 t,.int .i64 n,.slice E.a E.n E.c,.slice La ml Lc,.slice N.a N.n N.c,.slice O.a O.n O.c] 27)).alloc (.cells #[.int .i64 (D:Int),.int .i64 h,.int .i64 (lN:Int),.int .i64 v,.int .i64 u,.int .i64 (ne:Int),.int .i64 t,.int .i64 n] 23)) (w.heap.size+1) #[.int .i64 (D:Int),.int .i64 h,.int .i64 (lN:Int),.int .i64 v,.int .i64 u,.int .i64 (ne:Int),.int .i64 t,.int .i64 n]:=Blk.new_at 23 (w.alloc _) _ _ (by simp)
 obtain⟨a0,a1,a2,a3,a4,a5,a6,a7,a8,a9,a10,a11⟩:=qb.c12
 obtain⟨b0,b1,b2,b3,b4,b5,b6,b7⟩:=qc.cfg
 cases t0:((ml:Int)==(lN:Int)) with
 | false =>
  clear main
  have RB:=hdn (hbad (fun a=>by have q:=a.1.1;have:(ml:Int)≠(lN:Int):=(by simpa using t0);omega))
  clear hbad hgood hM hL eml
  by_cases hz:0<ml
  ·have hz':decide ((0:Int)<(ml:Int))=true:=by simp;omega
   have hz2:(0:Int)<(ml:Int):=by omega
   go_enter Tryz.func50,Tryz.ntmps50
   go_wp2_with (first
    | (go_at_call 36;refine (k10 _).mono ?_;rintro e W1 ⟨rfl,h1⟩;replace qb:=qb.kept h1;replace qc:=qc.kept h1;replace hb:=bTn hb h1;clear h1 a0 a1 a2 a3 a4 a5 a6 a7 a8 a9 a10 a11 b0 b1 b2 b3 b4 b5 b6 b7;obtain⟨a0,a1,a2,a3,a4,a5,a6,a7,a8,a9,a10,a11⟩:=qb.c12;obtain⟨b0,b1,b2,b3,b4,b5,b6,b7⟩:=qc.cfg))
   refine wp_loop_rounds 1 ?_
   rw[rounds_succ]
   go_wp2
   go_ret
   exact⟨by rw[RB.out];rfl,hb⟩
  ·have hz':decide ((0:Int)<(ml:Int))=false:=by simp;omega
   have hz2:¬(0:Int)<(ml:Int):=by omega
   go_enter Tryz.func50,Tryz.ntmps50
   go_wp2_with (first
    | (go_at_call 36;refine (k10 _).mono ?_;rintro e W1 ⟨rfl,h1⟩;replace qb:=qb.kept h1;replace qc:=qc.kept h1;replace hb:=bTn hb h1;clear h1 a0 a1 a2 a3 a4 a5 a6 a7 a8 a9 a10 a11 b0 b1 b2 b3 b4 b5 b6 b7;obtain⟨a0,a1,a2,a3,a4,a5,a6,a7,a8,a9,a10,a11⟩:=qb.c12;obtain⟨b0,b1,b2,b3,b4,b5,b6,b7⟩:=qc.cfg))
   refine wp_loop_rounds 1 ?_
   rw[rounds_succ]
   go_wp2
   go_ret
   exact⟨by rw[RB.out];rfl,hb⟩
 | true =>
 cases t1:((E.n:Int)==(VD:Int)) with
 | false =>
  clear main
  have RB:=hdn (hbad (fun a=>by have:=a.1.2.1;have:=hM.e.reads.len;have:(E.n:Int)≠(VD:Int):=(by simpa using t1);omega))
  clear hbad hgood hM hL eml
  by_cases hz:0<ml
  ·have hz':decide ((0:Int)<(ml:Int))=true:=by simp;omega
   have hz2:(0:Int)<(ml:Int):=by omega
   go_enter Tryz.func50,Tryz.ntmps50
   go_wp2_with (first
    | (go_at_call 36;refine (k10 _).mono ?_;rintro e W1 ⟨rfl,h1⟩;replace qb:=qb.kept h1;replace qc:=qc.kept h1;replace hb:=bTn hb h1;clear h1 a0 a1 a2 a3 a4 a5 a6 a7 a8 a9 a10 a11 b0 b1 b2 b3 b4 b5 b6 b7;obtain⟨a0,a1,a2,a3,a4,a5,a6,a7,a8,a9,a10,a11⟩:=qb.c12;obtain⟨b0,b1,b2,b3,b4,b5,b6,b7⟩:=qc.cfg))
   refine wp_loop_rounds 1 ?_
   rw[rounds_succ]
   go_wp2
   go_ret
   exact⟨by rw[RB.out];rfl,hb⟩
  ·have hz':decide ((0:Int)<(ml:Int))=false:=by simp;omega
   have hz2:¬(0:Int)<(ml:Int):=by omega
   go_enter Tryz.func50,Tryz.ntmps50
   go_wp2_with (first
    | (go_at_call 36;refine (k10 _).mono ?_;rintro e W1 ⟨rfl,h1⟩;replace qb:=qb.kept h1;replace qc:=qc.kept h1;replace hb:=bTn hb h1;clear h1 a0 a1 a2 a3 a4 a5 a6 a7 a8 a9 a10 a11 b0 b1 b2 b3 b4 b5 b6 b7;obtain⟨a0,a1,a2,a3,a4,a5,a6,a7,a8,a9,a10,a11⟩:=qb.c12;obtain⟨b0,b1,b2,b3,b4,b5,b6,b7⟩:=qc.cfg))
   refine wp_loop_rounds 1 ?_
   rw[rounds_succ]
   go_wp2
   go_ret
   exact⟨by rw[RB.out];rfl,hb⟩
 | true =>
 cases t2:((N.n:Int)==(D:Int)) with
 | false =>
  clear main
  have RB:=hdn (hbad (fun a=>by have:=a.1.2.2.1;have:=hM.nm.reads.len;have:(N.n:Int)≠(D:Int):=(by simpa using t2);omega))
  clear hbad hgood hM hL eml
  by_cases hz:0<ml
  ·have hz':decide ((0:Int)<(ml:Int))=true:=by simp;omega
   have hz2:(0:Int)<(ml:Int):=by omega
   go_enter Tryz.func50,Tryz.ntmps50
   go_wp2_with (first
    | (go_at_call 36;refine (k10 _).mono ?_;rintro e W1 ⟨rfl,h1⟩;replace qb:=qb.kept h1;replace qc:=qc.kept h1;replace hb:=bTn hb h1;clear h1 a0 a1 a2 a3 a4 a5 a6 a7 a8 a9 a10 a11 b0 b1 b2 b3 b4 b5 b6 b7;obtain⟨a0,a1,a2,a3,a4,a5,a6,a7,a8,a9,a10,a11⟩:=qb.c12;obtain⟨b0,b1,b2,b3,b4,b5,b6,b7⟩:=qc.cfg))
   refine wp_loop_rounds 1 ?_
   rw[rounds_succ]
   go_wp2
   go_ret
   exact⟨by rw[RB.out];rfl,hb⟩
  ·have hz':decide ((0:Int)<(ml:Int))=false:=by simp;omega
   have hz2:¬(0:Int)<(ml:Int):=by omega
   go_enter Tryz.func50,Tryz.ntmps50
   go_wp2_with (first
    | (go_at_call 36;refine (k10 _).mono ?_;rintro e W1 ⟨rfl,h1⟩;replace qb:=qb.kept h1;replace qc:=qc.kept h1;replace hb:=bTn hb h1;clear h1 a0 a1 a2 a3 a4 a5 a6 a7 a8 a9 a10 a11 b0 b1 b2 b3 b4 b5 b6 b7;obtain⟨a0,a1,a2,a3,a4,a5,a6,a7,a8,a9,a10,a11⟩:=qb.c12;obtain⟨b0,b1,b2,b3,b4,b5,b6,b7⟩:=qc.cfg))
   refine wp_loop_rounds 1 ?_
   rw[rounds_succ]
   go_wp2
   go_ret
   exact⟨by rw[RB.out];rfl,hb⟩
 | true =>
 cases t3:((O.n:Int)==(VD:Int)) with
 | false =>
  clear main
  have RB:=hdn (hbad (fun a=>by have:=a.1.2.2.2;have:=hM.o.reads.len;have:(O.n:Int)≠(VD:Int):=(by simpa using t3);omega))
  clear hbad hgood hM hL eml
  by_cases hz:0<ml
  ·have hz':decide ((0:Int)<(ml:Int))=true:=by simp;omega
   have hz2:(0:Int)<(ml:Int):=by omega
   go_enter Tryz.func50,Tryz.ntmps50
   go_wp2_with (first
    | (go_at_call 36;refine (k10 _).mono ?_;rintro e W1 ⟨rfl,h1⟩;replace qb:=qb.kept h1;replace qc:=qc.kept h1;replace hb:=bTn hb h1;clear h1 a0 a1 a2 a3 a4 a5 a6 a7 a8 a9 a10 a11 b0 b1 b2 b3 b4 b5 b6 b7;obtain⟨a0,a1,a2,a3,a4,a5,a6,a7,a8,a9,a10,a11⟩:=qb.c12;obtain⟨b0,b1,b2,b3,b4,b5,b6,b7⟩:=qc.cfg))
   refine wp_loop_rounds 1 ?_
   rw[rounds_succ]
   go_wp2
   go_ret
   exact⟨by rw[RB.out];rfl,hb⟩
  ·have hz':decide ((0:Int)<(ml:Int))=false:=by simp;omega
   have hz2:¬(0:Int)<(ml:Int):=by omega
   go_enter Tryz.func50,Tryz.ntmps50
   go_wp2_with (first
    | (go_at_call 36;refine (k10 _).mono ?_;rintro e W1 ⟨rfl,h1⟩;replace qb:=qb.kept h1;replace qc:=qc.kept h1;replace hb:=bTn hb h1;clear h1 a0 a1 a2 a3 a4 a5 a6 a7 a8 a9 a10 a11 b0 b1 b2 b3 b4 b5 b6 b7;obtain⟨a0,a1,a2,a3,a4,a5,a6,a7,a8,a9,a10,a11⟩:=qb.c12;obtain⟨b0,b1,b2,b3,b4,b5,b6,b7⟩:=qc.cfg))
   refine wp_loop_rounds 1 ?_
   rw[rounds_succ]
   go_wp2
   go_ret
   exact⟨by rw[RB.out];rfl,hb⟩
 | true =>
 exact main ⟨by have:(ml:Int)=(lN:Int):=(by simpa using t0);omega,by have:=hM.e.reads.len;have:(E.n:Int)=(VD:Int):=(by simpa using t1);omega,by have:=hM.nm.reads.len;have:(N.n:Int)=(D:Int):=(by simpa using t2);omega,by have:=hM.o.reads.len;have:(O.n:Int)=(VD:Int):=(by simpa using t3);omega⟩ t0 t1 t2 t3
theorem refCheck_call (d h l v u x t n:Int)(E L N O:SL)(Y U D:Nat→Nat→SL)(m:ModV)(w:World)(hM:ModAt w E L N O Y U D m)(hmx:m.ln≤9223372036854775807) :
  Calls Tryz.prog 50 #[.agg #[.int .i64 d,.int .i64 h,.int .i64 l,.int .i64 v,.int .i64 u,.int .i64 x,.int .i64 t,.int .i64 n,.slice E.a E.n E.c,.slice L.a L.n L.c,.slice N.a N.n N.c,.slice O.a O.n O.c]] w fun e w'=>e=.returned (.int .i64 (checkB d h l v u x t n m))∧Below w.heap.size w w':=by
 cases ok:okB d h l v u x t n with
 | false =>
  have:checkB d h l v u x t n m=20:=by unfold checkB;rw[ok];rfl
  rw[this]
  exact refCheck_no d h l v u x t n E L N O ok w
 | true =>
  have dm:=dims_of ok
  obtain⟨good,bad⟩:=chk_iff ok m
  have k10:=refConfig_call d h l v u x t n
  simp only[ok] at k10
  have hx:x=0∨2≤x:=by
   unfold okB expertsB at ok
   simp only[Bool.and_eq_true,decide_eq_true_eq] at ok
   omega
  have hl:L=⟨L.a,L.n,L.c⟩:=rfl
  have hLn:=hM.len
  rcases hx with hx|hx
  ·have n1:netsN x=1:=by unfold netsN;rw[hx];rfl
   rw[n1] at good bad
   have key:=refCheck_few h v u x t n d.toNat (d*d).toNat (x*d).toNat (u*d).toNat (v*d).toNat L.n L.c l.toNat L.a E L N O Y U D m w (checkB d h l v u x t n m) (by rw[←dm.ed];exact dm.e1) (by rw[←dm.ed];exact dm.e2) (by rw[←dm.ed];exact dm.e3) (by rw[←dm.ed];exact dm.e4) (by rw[←dm.ed,Int.mul_comm];exact dm.e4) (by omega)
    dm.b0 dm.b1 dm.b2 dm.b3 dm.b4 hl hM (by omega) (by rw[←dm.ed,←dm.el];exact k10) good bad
   rw[←dm.ed,←dm.el] at key
   exact key
  ·have en:x=(netsN x:Int):=by have:=dm.en;omega
   have key:=refCheck_many h v u t n d.toNat (d*d).toNat (x*d).toNat (u*d).toNat (v*d).toNat (netsN x) L.n L.c l.toNat L.a E L N O Y U D m w (checkB d h l v u x t n m) (by rw[←dm.ed];exact dm.e1) (by rw[←dm.ed];exact dm.e2) (by rw[←dm.ed,←en];exact dm.e3) (by rw[←dm.ed];exact dm.e4) (by rw[←dm.ed,Int.mul_comm];exact dm.e4) (by omega) dm.n1
    dm.b0 dm.b1 dm.b2 dm.b3 dm.b4 hl hM (by omega) (by rw[←dm.ed,←dm.el,←en];exact k10) good bad
   rw[←dm.ed,←dm.el,←en] at key
   exact key
end Go.Proofs.YthliomlmhfjhnaaGreat
