/- Texts put together. -/
import Derived.Test.YthliomlmhfjhnaaGreatRows
import Derived.Test.YthliomlmhfjhnaaGreatZf28
import Derived.Test.YthliomlmhfjhnaaGreatZf29
namespace Go.Proofs.YthliomlmhfjhnaaGreat
set_option maxRecDepth 20000
set_option maxHeartbeats 16000000
open Go.ChangeShapes Go.WideShapes Go.ChangeAt Go.RowKit
set_option linter.unusedVariables false
set_option linter.unusedSimpArgs false
section
theorem worked_walk (M:Md)(E L N O:SL)(Y U D:Nat→Nat→SL)(x0:Addr)(F:MdFit M)(i:Nat)(hi:i<M.m.ln)(w:World)(hM:ModAt w E L N O Y U D M.m)(hx0:L.a=some x0)(ax:Option Addr)(cx:Nat)(x:List Int)(ao:Option Addr)(co:Nat)(o:List Int)(hx:Reads .i64 w ax M.D x)(ho:Reads .i64 w ao M.D o) :
  Calls Tryz.prog 63 #[.agg #[.int .i64 M.d,.int .i64 M.h,.int .i64 M.l,.int .i64 M.v,.int .i64 M.u,.int .i64 M.x,.int .i64 M.t,.int .i64 M.n,.slice E.a E.n E.c,.slice (some x0) M.m.ln L.c,.slice N.a N.n N.c,.slice O.a O.n O.c],.int .i64 i,.slice ax M.D cx,.slice ao M.D co] w fun e w'=>(∃ a c,e=.returned (.slice a M.D c)∧Reads .i64 w' a M.D (wkL M i x o)∧∀ x,a=some x→w.heap.size≤x.block)∧Below w.heap.size w w':=by
 have hb1:=bNw (Below.refl w.heap.size w) (.cells #[.int .i64 M.d,.int .i64 M.h,.int .i64 M.l,.int .i64 M.v,.int .i64 M.u,.int .i64 M.x,.int .i64 M.t,.int .i64 M.n,.slice E.a E.n E.c,.slice (some x0) M.m.ln L.c,.slice N.a N.n N.c,.slice O.a O.n O.c] 27)
 have q1:=Blk.new 27 w #[.int .i64 M.d,.int .i64 M.h,.int .i64 M.l,.int .i64 M.v,.int .i64 M.u,.int .i64 M.x,.int .i64 M.t,.int .i64 M.n,.slice E.a E.n E.c,.slice (some x0) M.m.ln L.c,.slice N.a N.n N.c,.slice O.a O.n O.c]
 have km:=fun (W:World) (hb:Below w.heap.size w W) a c xs=>md_mat F hi 4 (by omega) (by omega) (Y i 4) W (((hM.lay i hi).f 4 (by omega)).below hb) a c xs
 have kr:=fun (W:World) (hb:Below w.heap.size w W) a c xs=>md_rms F (Y i 5) _ (F.f5 i hi) W (((hM.lay i hi).f 5 (by omega)).below hb) a c xs
 have kx:=fun (W:World) (hb:Below w.heap.size w W) a c xs=>md_mix F hi (Y i 6) (Y i 7) (Y i 8) (U i) (D i) W (((hM.lay i hi).f 6 (by omega)).below hb) ((hM.lay i hi).u.below hb) ((hM.lay i hi).d.below hb) a c xs
 have ka:=fun (W:World) a0 c0 xs a1 c1 ys=>md_add F W a0 c0 xs a1 c1 ys
 have kb:=ka
 unfold wkL w1L
 go_enter Tryz.func63,Tryz.ntmps63
 go_wp2
 refine wk_region M E L N O Y w.heap.size i x0 U D (hM.below hb1) hx0 hi q1 (by kernel_rfl) rfl ⟨_,rfl,rfl,rfl,rfl,by kernel_rfl⟩ ⟨_,rfl,rfl,rfl,rfl,by kernel_rfl⟩ ⟨_,rfl,rfl,rfl,rfl,by kernel_rfl⟩ ⟨_,rfl,rfl,rfl,rfl,by kernel_rfl⟩ ⟨_,rfl,rfl,rfl,rfl,by kernel_rfl⟩ ⟨_,rfl,rfl,rfl,rfl,by kernel_rfl⟩ ⟨_,rfl,rfl,rfl,rfl,by kernel_rfl⟩ ⟨_,rfl,rfl,rfl,rfl,by kernel_rfl⟩ ⟨_,rfl,rfl,rfl,rfl,by kernel_rfl⟩ ⟨_,rfl,rfl,rfl,rfl,by kernel_rfl⟩ ⟨_,rfl,rfl,rfl,rfl,by kernel_rfl⟩ rfl rfl (Nat.le_of_ble_eq_true rfl) ?_
 intro a W2 cb lb hs hd hkp e9 e10 hb2 qc ql
 have ep:=fPu [12,13,14,15,16,17,18,9,10] hs hd (fun s h=>hkp s (fun j hj e=>h (by
  rcases (show j=0∨j=1∨j=2∨j=3∨j=4∨j=5∨j=6∨j=7∨j=8∨j=9∨j=10 by omega) with rfl|rfl|rfl|rfl|rfl|rfl|rfl|rfl|rfl|rfl|rfl<;>first|(simp only[wkD,Option.some.injEq] at e;subst e;simp;done)|(simp[wkD] at e))))
 simp only[List.foldl] at ep
 rw[e9,e10] at ep
 clear hs hd hkp e9 e10
 generalize a.tmps.getD 12 undef=g12,a.tmps.getD 13 undef=g13,a.tmps.getD 14 undef=g14,a.tmps.getD 15 undef=g15,a.tmps.getD 16 undef=g16,a.tmps.getD 17 undef=g17,a.tmps.getD 18 undef=g18 at ep
 simp only[Act.put,List.setIfInBounds_toArray,List.set_cons_succ,List.set_cons_zero] at ep
 subst ep
 have hb:=bTn hb1 hb2
 have hx2:=hx.below hb
 have ho2:=ho.below hb
 have QC:=hdn qc
 have QL:=hdn ql
 have z0:=qc.cell 0 (v:=.int .i64 M.d) rfl
 have y4:=ql.cell 4 (v:=.slice (Y i 4).a (Y i 4).n (Y i 4).c) rfl
 clear qc ql hb1 hb2 q1 hx ho hM
 go_wp2_with (first
  | (go_at_call 49;refine (km _ hb _ _ _ ho2).mono ?_;rintro e W3 ⟨⟨a3,c3,rfl,r3,l3,-⟩,h3⟩;clear km;have hb3:=bTn hb h3;have x3:=hx2.below h3;have QC3:=hdn (QC.out.kept h3);have QL3:=hdn (QL.out.kept h3);clear h3 hx2 QC QL)
  | (go_at_call 48;refine (mdmust_yes _ _ _ _).mono ?_;rintro e w' ⟨rfl,hq⟩;obtain rfl:=hq.symm;clear hq)
  | (go_at_call 93;refine (ka _ _ _ _ _ _ _ x3 r3).mono ?_;rintro e W4 ⟨⟨a4,c4,rfl,r4,l4,-⟩,h4⟩;clear ka;have hb4:=bTn hb3 h4;have QC4:=hdn (QC3.out.kept h4);have QL4:=hdn (QL3.out.kept h4);have y5:=QL4.out.cell 5 (v:=.slice (Y i 5).a (Y i 5).n (Y i 5).c) rfl;clear h4 x3 r3 QC3 QL3)
  | (go_at_call 64;refine (kr _ hb4 _ _ _ r4).mono ?_;rintro e W5 ⟨⟨a5,c5,rfl,r5,-⟩,h5⟩;clear kr;have hb5:=bTn hb4 h5;have r4':=r4.below h5;have z4:=(QC4.out.kept h5).cell 4 (v:=.int .i64 M.u) rfl;have z6:=(QC4.out.kept h5).cell 6 (v:=.int .i64 M.t) rfl;have y6:=(QL4.out.kept h5).cell 6 (v:=.slice (Y i 6).a (Y i 6).n (Y i 6).c) rfl;have y7:=(QL4.out.kept h5).cell 7 (v:=.slice (Y i 7).a (Y i 7).n (Y i 7).c) rfl;have y8:=(QL4.out.kept h5).cell 8 (v:=.slice (Y i 8).a (Y i 8).n (Y i 8).c) rfl;clear h5 r4 QC4 QL4)
  | (go_at_call 100;refine (kx _ hb5 _ _ _ r5).mono ?_;rintro e W6 ⟨⟨a6,c6,rfl,r6⟩,h6⟩;clear kx;have hb6:=bTn hb5 h6;have r4'':=r4'.below h6;clear h6 r4' r5)
  | (go_at_call 93;refine (kb _ _ _ _ _ _ _ r4'' r6).mono ?_;rintro e W7 ⟨⟨a7,c7,rfl,r7,l7,f7⟩,h7⟩;clear kb;have F7:Hid (∀ x,a7=some x→w.heap.size≤x.block):=fun x hx=>Nat.le_trans hb6.size (f7 x hx);clear f7;have hb7:=bTn hb6 h7;clear h7 r4'' r6))
 go_ret
 exact⟨⟨_,_,rfl,r7,F7.out⟩,hb7⟩
end
end Go.Proofs.YthliomlmhfjhnaaGreat
