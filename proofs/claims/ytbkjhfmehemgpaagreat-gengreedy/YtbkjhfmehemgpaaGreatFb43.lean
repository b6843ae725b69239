/- Texts put together. -/
import Derived.Test.YtbkjhfmehemgpaaGreatFb38
import Derived.Test.YtbkjhfmehemgpaaGreatFb40
namespace Go.Proofs.YtbkjhfmehemgpaaGreat
set_option maxRecDepth 20000
set_option maxHeartbeats 16000000
open Go.ChangeShapes Go.WideShapes Go.ChangeAt Go.RowKit
set_option linter.unusedVariables false
set_option linter.unusedSimpArgs false
theorem looks_no (M:Md)(E L N O:SL)(Y U D:Nat→Nat→SL)(La:SL)(Ya:Nat→Nat→SL)(x0:Addr)(F:MdFit M)(hr0:M.r=0)(i:Nat)(hi:i<M.m.ln)(p:Int)(hp:0≤p∧p≤1000)(w:World)(hM:ModAt w E L N O Y U D M.m)(hx0:L.a=some x0)(ax:Option Addr)(cx:Nat)(x:List Int)(hx:Reads .i64 w ax M.D x) :
  Calls Tryz.prog 143 #[.agg #[.int .i64 M.d,.int .i64 M.h,.int .i64 M.l,.int .i64 M.v,.int .i64 M.u,.int .i64 M.x,.int .i64 M.t,.int .i64 M.n,.slice E.a E.n E.c,.slice (some x0) M.m.ln L.c,.slice N.a N.n N.c,.slice O.a O.n O.c],.agg #[.int .i64 M.r,.int .i64 M.s,.slice La.a La.n La.c],.int .i64 i,.int .i64 p,.slice ax M.D cx] w fun e w'=>(∃ q cq k ck v cv,e=.returned (.tuple #[.slice q M.D cq,.slice k M.D ck,.slice v M.D cv])∧(Reads .i64 w' q M.D (qL M p i x)∧M.D≤cq)∧(Reads .i64 w' k M.D (kL M p i x)∧M.D≤ck)∧(Reads .i64 w' v M.D (vL M i x)∧M.D≤cv∧∀ x,v=some x→w.heap.size≤x.block))∧Below w.heap.size w w':=by
 have hb1:=bNw (bNw (Below.refl w.heap.size w) (.cells #[.int .i64 M.d,.int .i64 M.h,.int .i64 M.l,.int .i64 M.v,.int .i64 M.u,.int .i64 M.x,.int .i64 M.t,.int .i64 M.n,.slice E.a E.n E.c,.slice (some x0) M.m.ln L.c,.slice N.a N.n N.c,.slice O.a O.n O.c] 34)) (.cells #[.int .i64 M.r,.int .i64 M.s,.slice La.a La.n La.c] 37)
 have q1:Blk 34 ((w.alloc (.cells #[.int .i64 M.d,.int .i64 M.h,.int .i64 M.l,.int .i64 M.v,.int .i64 M.u,.int .i64 M.x,.int .i64 M.t,.int .i64 M.n,.slice E.a E.n E.c,.slice (some x0) M.m.ln L.c,.slice N.a N.n N.c,.slice O.a O.n O.c] 34)).alloc (.cells #[.int .i64 M.r,.int .i64 M.s,.slice La.a La.n La.c] 37)) w.heap.size #[.int .i64 M.d,.int .i64 M.h,.int .i64 M.l,.int .i64 M.v,.int .i64 M.u,.int .i64 M.x,.int .i64 M.t,.int .i64 M.n,.slice E.a E.n E.c,.slice (some x0) M.m.ln L.c,.slice N.a N.n N.c,.slice O.a O.n O.c]:=(Blk.new 34 w _).kept (bNw (Below.refl _ _) _)
 have q2:Blk 37 ((w.alloc (.cells #[.int .i64 M.d,.int .i64 M.h,.int .i64 M.l,.int .i64 M.v,.int .i64 M.u,.int .i64 M.x,.int .i64 M.t,.int .i64 M.n,.slice E.a E.n E.c,.slice (some x0) M.m.ln L.c,.slice N.a N.n N.c,.slice O.a O.n O.c] 34)).alloc (.cells #[.int .i64 M.r,.int .i64 M.s,.slice La.a La.n La.c] 37)) (w.heap.size+1) #[.int .i64 M.r,.int .i64 M.s,.slice La.a La.n La.c]:=Blk.new_at 37 (w.alloc _) _ _ (by simp)
 have kr:=fun (W:World) (hb:Below w.heap.size w W) a c xs=>md_rms F (Y i 0) _ (F.f0 i hi) W (((hM.lay i hi).f 0 (by omega)).below hb) a c xs
 have kq:=fun (W:World) (hb:Below w.heap.size w W) a c xs=>md_mat F hi 1 (by omega) (by omega) (Y i 1) W (((hM.lay i hi).f 1 (by omega)).below hb) a c xs
 have kk:=fun (W:World) (hb:Below w.heap.size w W) a c xs=>md_mat F hi 2 (by omega) (by omega) (Y i 2) W (((hM.lay i hi).f 2 (by omega)).below hb) a c xs
 have kv:=fun (W:World) (hb:Below w.heap.size w W) a c xs=>md_mat F hi 3 (by omega) (by omega) (Y i 3) W (((hM.lay i hi).f 3 (by omega)).below hb) a c xs
 have kg:=grafted_no M.r M.s La hr0
 have hnot:∀ (x:Bool) (w:World),(Op.unary .not (.bool x)).run Tryz.prog w=.ok (.bool (!x)) w:=fun _ _=>rfl
 have eq:qL M p i x=headsL (matL (M.m.f i 1) (nrmL M i x)) p (M.D/M.H) M.H:=by unfold qL graftL;rw[if_pos hr0]
 have ev:vL M i x=matL (M.m.f i 3) (nrmL M i x):=by unfold vL graftL;rw[if_pos hr0]
 unfold nrmL at eq ev
 rw[eq,ev]
 unfold kL nrmL
 clear eq ev hr0
 go_enter Tryz.func143,Tryz.ntmps143
 go_wp2
 refine lk_region M E L N O Y w.heap.size i x0 U D (hM.below hb1) hx0 hi q1 (by kernel_rfl) rfl ⟨_,rfl,rfl,rfl,rfl,by kernel_rfl⟩ ⟨_,rfl,rfl,rfl,rfl,by kernel_rfl⟩ ⟨_,rfl,rfl,rfl,rfl,by kernel_rfl⟩ ⟨_,rfl,rfl,rfl,rfl,by kernel_rfl⟩ ⟨_,rfl,rfl,rfl,rfl,by kernel_rfl⟩ ⟨_,rfl,rfl,rfl,rfl,by kernel_rfl⟩ ⟨_,rfl,rfl,rfl,rfl,by kernel_rfl⟩ ⟨_,rfl,rfl,rfl,rfl,by kernel_rfl⟩ ⟨_,rfl,rfl,rfl,rfl,by kernel_rfl⟩ ⟨_,rfl,rfl,rfl,rfl,by kernel_rfl⟩ ⟨_,rfl,rfl,rfl,rfl,by kernel_rfl⟩ rfl rfl (Nat.le_of_ble_eq_true rfl) ?_
 intro a W2 cb lb hs hd hkp e13 e14 hb2 qc ql
 have ep:=fPu [17,18,19,20,21,22,23,13,14] hs hd (fun s h=>hkp s (fun j hj e=>h (by
  rcases (show j=0∨j=1∨j=2∨j=3∨j=4∨j=5∨j=6∨j=7∨j=8∨j=9∨j=10 by omega) with rfl|rfl|rfl|rfl|rfl|rfl|rfl|rfl|rfl|rfl|rfl<;>first|(simp only[lkD,Option.some.injEq] at e;subst e;simp;done)|(simp[lkD] at e))))
 simp only[List.foldl] at ep
 rw[e13,e14] at ep
 clear hs hd hkp e13 e14
 generalize a.tmps.getD 17 undef=g17,a.tmps.getD 18 undef=g18,a.tmps.getD 19 undef=g19,a.tmps.getD 20 undef=g20,a.tmps.getD 21 undef=g21,a.tmps.getD 22 undef=g22,a.tmps.getD 23 undef=g23 at ep
 simp only[Act.put,List.setIfInBounds_toArray,List.set_cons_succ,List.set_cons_zero] at ep
 subst ep
 have hb:=bTn hb1 hb2
 have hx2:=hx.below hb
 have QC:=hdn qc
 have QL:=hdn ql
 have QA:=hdn (q2.kept hb2)
 have yy0:=ql.cell 0 (v:=.slice (Y i 0).a (Y i 0).n (Y i 0).c) rfl
 clear qc ql hb1 hb2 q1 q2 hx hM
 go_wp2_with (first
  | (go_at_call 148;refine (kr _ hb _ _ _ hx2).mono ?_;rintro e W3 ⟨⟨a3,c3,rfl,r3,-⟩,h3⟩;clear kr;have hb3:=bTn hb h3;have QC':=hdn (QC.out.kept h3);clear QC;have QC:=QC';clear QC';have QL':=hdn (QL.out.kept h3);clear QL;have QL:=QL';clear QL';have QA':=hdn (QA.out.kept h3);clear QA;have QA:=QA';clear QA';have y1:=QL.out.cell 1 (v:=.slice (Y i 1).a (Y i 1).n (Y i 1).c) rfl;have z3:=QC.out.cell 0 (v:=.int .i64 M.d) rfl;clear h3 hx2)
  | (go_at_call 145;refine (mdmust_yes _ _ _ _).mono ?_;rintro e w' ⟨rfl,hq⟩;obtain rfl:=hq.symm;clear hq)
  | (go_at_call 157;refine (kq _ hb3 _ _ _ r3).mono ?_;rintro e W4 ⟨⟨a4,c4,rfl,r4,l4,-⟩,h4⟩;clear kq;have hb4:=bTn hb3 h4;have QC':=hdn (QC.out.kept h4);clear QC;have QC:=QC';clear QC';have QL':=hdn (QL.out.kept h4);clear QL;have QL:=QL';clear QL';have QA':=hdn (QA.out.kept h4);clear QA;have QA:=QA';clear QA';replace r3:=r3.below h4;have y2:=QL.out.cell 2 (v:=.slice (Y i 2).a (Y i 2).n (Y i 2).c) rfl;have z4:=QC.out.cell 0 (v:=.int .i64 M.d) rfl;clear h4 y1 z3)
  | (go_at_call 157;refine (kk _ hb4 _ _ _ r3).mono ?_;rintro e W5 ⟨⟨a5,c5,rfl,r5,l5,-⟩,h5⟩;clear kk;have hb5:=bTn hb4 h5;have QC':=hdn (QC.out.kept h5);clear QC;have QC:=QC';clear QC';have QL':=hdn (QL.out.kept h5);clear QL;have QL:=QL';clear QL';have QA':=hdn (QA.out.kept h5);clear QA;have QA:=QA';clear QA';replace r3:=r3.below h5;replace r4:=r4.below h5;have y3:=QL.out.cell 3 (v:=.slice (Y i 3).a (Y i 3).n (Y i 3).c) rfl;have z5:=QC.out.cell 0 (v:=.int .i64 M.d) rfl;clear h5 y2 z4)
  | (go_at_call 157;refine (kv _ hb5 _ _ _ r3).mono ?_;rintro e W6 ⟨⟨a6,c6,rfl,r6,l6,f6⟩,h6⟩;clear kv;have FV:Hid (∀ x,a6=some x→w.heap.size≤x.block):=fun x hx=>Nat.le_trans hb5.size (f6 x hx);clear f6;have hb6:=bTn hb5 h6;have QC':=hdn (QC.out.kept h6);clear QC;have QC:=QC';clear QC';have QL':=hdn (QL.out.kept h6);clear QL;have QL:=QL';clear QL';have QA':=hdn (QA.out.kept h6);clear QA;have QA:=QA';clear QA';replace r3:=r3.below h6;replace r4:=r4.below h6;replace r5:=r5.below h6;obtain⟨s0,s1,s2⟩:=QA.out.c3;clear h6 y3 z5)
  | (go_at_call 107;refine (kg _).mono ?_;rintro e W7 ⟨rfl,h7⟩;clear kg;have hb7:=bTn hb6 h7;have QC':=hdn (QC.out.kept h7);clear QC;have QC:=QC';clear QC';have QL':=hdn (QL.out.kept h7);clear QL;have QL:=QL';clear QL';have QA':=hdn (QA.out.kept h7);clear QA;have QA:=QA';clear QA';replace r3:=r3.below h7;replace r4:=r4.below h7;replace r5:=r5.below h7;replace r6:=r6.below h7;clear h7 s0 s1 s2))
 refine lh_region cb M.D c4 c5 c6 a4 a5 a6 M.h p (headsL (matL (M.m.f i 1) (rmsZ x (M.m.f i 0) M.D)) p (M.D/M.H) M.H) (headsL (matL (M.m.f i 2) (rmsZ x (M.m.f i 0) M.D)) p (M.D/M.H) M.H) (fun W=>Below W7.heap.size W7 W) (by kernel_rfl) rfl ⟨_,rfl,rfl,rfl,rfl,by kernel_rfl⟩ ⟨_,rfl,rfl,rfl,rfl,by kernel_rfl⟩ ⟨_,rfl,rfl,rfl,rfl,by kernel_rfl⟩ ⟨_,rfl,rfl,rfl,rfl,by kernel_rfl⟩ ⟨_,rfl,rfl,rfl,rfl,by kernel_rfl⟩ ⟨_,rfl,rfl,rfl,rfl,by kernel_rfl⟩ ⟨_,rfl,rfl,rfl,rfl,by kernel_rfl⟩ ⟨_,rfl,rfl,rfl,rfl,by kernel_rfl⟩ ⟨_,rfl,rfl,rfl,rfl,by kernel_rfl⟩ ⟨_,rfl,rfl,rfl,rfl,by kernel_rfl⟩ ⟨_,rfl,rfl,rfl,rfl,by kernel_rfl⟩ ⟨_,rfl,rfl,rfl,rfl,by kernel_rfl⟩ ⟨_,rfl,rfl,rfl,rfl,by kernel_rfl⟩ ⟨_,rfl,rfl,rfl,rfl,by kernel_rfl⟩ ⟨_,rfl,rfl,rfl,rfl,by kernel_rfl⟩ ⟨_,rfl,rfl,rfl,rfl,by kernel_rfl⟩ ⟨_,rfl,rfl,rfl,rfl,by kernel_rfl⟩ ⟨_,rfl,rfl,rfl,rfl,by kernel_rfl⟩ ⟨_,rfl,rfl,rfl,rfl,by kernel_rfl⟩ ⟨_,rfl,rfl,rfl,rfl,by kernel_rfl⟩ (Below.refl _ _).drew (run_field23 _ 1 (by omega)) (fun W hb=>run_load3 ((QC.out.kept hb).cell 1 (v:=.int .i64 M.h) rfl)) (fun W hb=>(md_heads F p hp W _ _ _ (r4.below hb) l4).mono fun e w' ⟨⟨a,c,q1,q2,q3⟩,q4⟩=>⟨a,c,q1,q2,q3,q4,bTn hb q4⟩) trivial (run_field23 _ 1 (by omega)) (fun W hb=>run_load3 ((QC.out.kept hb).cell 1 (v:=.int .i64 M.h) rfl)) (fun W hb=>(md_heads F p hp W _ _ _ (r5.below hb) l5).mono fun e w' ⟨⟨a,c,q1,q2,q3⟩,q4⟩=>⟨a,c,q1,q2,q3,q4,bTn hb q4⟩) trivial rfl rfl rfl rfl rfl (Nat.le_of_ble_eq_true rfl) ?_
 intro a W9 hs hd hkp hS9 hval
 have e12:a.tmps.getD 12 undef=.slice a6 M.D c6:=hval 19 12 (by decide) rfl
 obtain⟨q9,qc9,e10,f10,z10⟩:=hval 17 10 (by decide) rfl
 obtain⟨k9,kc9,e11,f11,z11⟩:=hval 18 11 (by decide) rfl
 have ep:=fPu [101,102,103,104,105,106,107,108,109,110,111,112,113,114,115,116,117,10,11,12] hs hd (fun s h=>hkp s (fun i hi e=>h (by
  rcases (show i=0∨i=1∨i=2∨i=3∨i=4∨i=5∨i=6∨i=7∨i=8∨i=9∨i=10∨i=11∨i=12∨i=13∨i=14∨i=15∨i=16∨i=17∨i=18∨i=19 by omega) with rfl|rfl|rfl|rfl|rfl|rfl|rfl|rfl|rfl|rfl|rfl|rfl|rfl|rfl|rfl|rfl|rfl|rfl|rfl|rfl<;>(simp only[lhD,Option.some.injEq] at e;subst e;simp))))
 simp only[List.foldl] at ep
 rw[e12] at ep
 rw[e10] at ep
 rw[e11] at ep
 have H9:=hdn hS9
 clear hs hd hkp hval hS9 e12 e10 e11
 generalize a.tmps.getD 101 undef=g101,a.tmps.getD 102 undef=g102,a.tmps.getD 103 undef=g103,a.tmps.getD 104 undef=g104,a.tmps.getD 105 undef=g105,a.tmps.getD 106 undef=g106,a.tmps.getD 107 undef=g107,a.tmps.getD 108 undef=g108,a.tmps.getD 109 undef=g109,a.tmps.getD 110 undef=g110,a.tmps.getD 111 undef=g111,a.tmps.getD 112 undef=g112,a.tmps.getD 113 undef=g113,a.tmps.getD 114 undef=g114,a.tmps.getD 115 undef=g115,a.tmps.getD 116 undef=g116,a.tmps.getD 117 undef=g117 at ep
 simp only[Act.put,List.setIfInBounds_toArray,List.set_cons_succ,List.set_cons_zero] at ep
 subst ep
 have fv:=r6.below H9.out
 have hbE:=bTn hb7 H9.out
 go_wp2
 refine bodyPost_ret (v:=.tuple #[.slice q9 M.D qc9,.slice k9 M.D kc9,.slice a6 M.D c6]) ?_ rfl ⟨⟨q9,qc9,k9,kc9,a6,c6,rfl,⟨f10,z10⟩,⟨f11,z11⟩,fv,l6,FV.out⟩,hbE⟩
 simp[results,Tryz.results143,go_sem]
theorem looks_yes (M:Md)(E L N O:SL)(Y U D:Nat→Nat→SL)(La:SL)(Ya:Nat→Nat→SL)(x0 y0:Addr)(F:MdFit M)(hr0:M.r≠0)(R:Nat)(A:AdFit M R)(i:Nat)(hi:i<M.m.ln)(p:Int)(hp:0≤p∧p≤1000)(w:World)(hM:ModAt w E L N O Y U D M.m)(hA:AdAt w La Ya M.a)(hx0:L.a=some x0)(hy0:La.a=some y0)(ax:Option Addr)(cx:Nat)(x:List Int)(hx:Reads .i64 w ax M.D x) :
  Calls Tryz.prog 143 #[.agg #[.int .i64 M.d,.int .i64 M.h,.int .i64 M.l,.int .i64 M.v,.int .i64 M.u,.int .i64 M.x,.int .i64 M.t,.int .i64 M.n,.slice E.a E.n E.c,.slice (some x0) M.m.ln L.c,.slice N.a N.n N.c,.slice O.a O.n O.c],.agg #[.int .i64 M.r,.int .i64 M.s,.slice (some y0) M.m.ln La.c],.int .i64 i,.int .i64 p,.slice ax M.D cx] w fun e w'=>(∃ q cq k ck v cv,e=.returned (.tuple #[.slice q M.D cq,.slice k M.D ck,.slice v M.D cv])∧(Reads .i64 w' q M.D (qL M p i x)∧M.D≤cq)∧(Reads .i64 w' k M.D (kL M p i x)∧M.D≤ck)∧(Reads .i64 w' v M.D (vL M i x)∧M.D≤cv∧∀ x,v=some x→w.heap.size≤x.block))∧Below w.heap.size w w':=by
 have hia:i<M.a.ln:=by rw[A.ln];exact hi
 have hb1:=bNw (bNw (Below.refl w.heap.size w) (.cells #[.int .i64 M.d,.int .i64 M.h,.int .i64 M.l,.int .i64 M.v,.int .i64 M.u,.int .i64 M.x,.int .i64 M.t,.int .i64 M.n,.slice E.a E.n E.c,.slice (some x0) M.m.ln L.c,.slice N.a N.n N.c,.slice O.a O.n O.c] 34)) (.cells #[.int .i64 M.r,.int .i64 M.s,.slice (some y0) M.m.ln La.c] 37)
 have q1:Blk 34 ((w.alloc (.cells #[.int .i64 M.d,.int .i64 M.h,.int .i64 M.l,.int .i64 M.v,.int .i64 M.u,.int .i64 M.x,.int .i64 M.t,.int .i64 M.n,.slice E.a E.n E.c,.slice (some x0) M.m.ln L.c,.slice N.a N.n N.c,.slice O.a O.n O.c] 34)).alloc (.cells #[.int .i64 M.r,.int .i64 M.s,.slice (some y0) M.m.ln La.c] 37)) w.heap.size #[.int .i64 M.d,.int .i64 M.h,.int .i64 M.l,.int .i64 M.v,.int .i64 M.u,.int .i64 M.x,.int .i64 M.t,.int .i64 M.n,.slice E.a E.n E.c,.slice (some x0) M.m.ln L.c,.slice N.a N.n N.c,.slice O.a O.n O.c]:=(Blk.new 34 w _).kept (bNw (Below.refl _ _) _)
 have q2:Blk 37 ((w.alloc (.cells #[.int .i64 M.d,.int .i64 M.h,.int .i64 M.l,.int .i64 M.v,.int .i64 M.u,.int .i64 M.x,.int .i64 M.t,.int .i64 M.n,.slice E.a E.n E.c,.slice (some x0) M.m.ln L.c,.slice N.a N.n N.c,.slice O.a O.n O.c] 34)).alloc (.cells #[.int .i64 M.r,.int .i64 M.s,.slice (some y0) M.m.ln La.c] 37)) (w.heap.size+1) #[.int .i64 M.r,.int .i64 M.s,.slice (some y0) M.m.ln La.c]:=Blk.new_at 37 (w.alloc _) _ _ (by simp)
 have kr:=fun (W:World) (hb:Below w.heap.size w W) a c xs=>md_rms F (Y i 0) _ (F.f0 i hi) W (((hM.lay i hi).f 0 (by omega)).below hb) a c xs
 have kq:=fun (W:World) (hb:Below w.heap.size w W) a c xs=>md_mat F hi 1 (by omega) (by omega) (Y i 1) W (((hM.lay i hi).f 1 (by omega)).below hb) a c xs
 have kk:=fun (W:World) (hb:Below w.heap.size w W) a c xs=>md_mat F hi 2 (by omega) (by omega) (Y i 2) W (((hM.lay i hi).f 2 (by omega)).below hb) a c xs
 have kv:=fun (W:World) (hb:Below w.heap.size w W) a c xs=>md_mat F hi 3 (by omega) (by omega) (Y i 3) W (((hM.lay i hi).f 3 (by omega)).below hb) a c xs
 have kg:∀ w,Calls Tryz.prog 107 #[.agg #[.int .i64 M.r,.int .i64 M.s,.slice (some y0) M.m.ln La.c]] w fun e w'=>e=.returned (.bool true)∧Below w.heap.size w w':=fun w=>grafted_yes M.r M.s ⟨some y0,M.m.ln,La.c⟩ hr0 w
 have cg:=fun (W:World) (hb:Below w.heap.size w W) j hj=>(hA.below hb).cell y0 hy0 i hia j hj
 have ka:=fun (W:World) (hb:Below w.heap.size w W) a c xs=>md_apply F A hi 0 (by omega) (Ya i 0) (Ya i 1) W ((hA.lay i hia 0 (by omega)).below hb) ((hA.lay i hia 1 (by omega)).below hb) a c xs
 have kb:=fun (W:World) (hb:Below w.heap.size w W) a c xs=>md_apply F A hi 2 (by omega) (Ya i 2) (Ya i 3) W ((hA.lay i hia 2 (by omega)).below hb) ((hA.lay i hia 3 (by omega)).below hb) a c xs
 have k1:=fun (W:World) a0 c0 xs a1 c1 ys=>md_add F W a0 c0 xs a1 c1 ys
 have k2:=k1
 have hnot:∀ (x:Bool) (w:World),(Op.unary .not (.bool x)).run Tryz.prog w=.ok (.bool (!x)) w:=fun _ _=>rfl
 have eq:qL M p i x=headsL (plusL (matL (M.m.f i 1) (nrmL M i x)) (applR (M.a.f i 0) (M.a.f i (0+1)) M.r M.s (nrmL M i x))) p (M.D/M.H) M.H:=by unfold qL graftL;rw[if_neg hr0]
 have ev:vL M i x=plusL (matL (M.m.f i 3) (nrmL M i x)) (applR (M.a.f i 2) (M.a.f i (2+1)) M.r M.s (nrmL M i x)):=by unfold vL graftL;rw[if_neg hr0]
 unfold nrmL at eq ev
 rw[eq,ev]
 unfold kL nrmL
 have hlt:(i:Int)<(M.m.ln:Int):=by omega
 clear eq ev hr0 hA
 go_enter Tryz.func143,Tryz.ntmps143
 go_wp2
 refine lk_region M E L N O Y w.heap.size i x0 U D (hM.below hb1) hx0 hi q1 (by kernel_rfl) rfl ⟨_,rfl,rfl,rfl,rfl,by kernel_rfl⟩ ⟨_,rfl,rfl,rfl,rfl,by kernel_rfl⟩ ⟨_,rfl,rfl,rfl,rfl,by kernel_rfl⟩ ⟨_,rfl,rfl,rfl,rfl,by kernel_rfl⟩ ⟨_,rfl,rfl,rfl,rfl,by kernel_rfl⟩ ⟨_,rfl,rfl,rfl,rfl,by kernel_rfl⟩ ⟨_,rfl,rfl,rfl,rfl,by kernel_rfl⟩ ⟨_,rfl,rfl,rfl,rfl,by kernel_rfl⟩ ⟨_,rfl,rfl,rfl,rfl,by kernel_rfl⟩ ⟨_,rfl,rfl,rfl,rfl,by kernel_rfl⟩ ⟨_,rfl,rfl,rfl,rfl,by kernel_rfl⟩ rfl rfl (Nat.le_of_ble_eq_true rfl) ?_
 intro a W2 cb lb hs hd hkp e13 e14 hb2 qc ql
 have ep:=fPu [17,18,19,20,21,22,23,13,14] hs hd (fun s h=>hkp s (fun j hj e=>h (by
  rcases (show j=0∨j=1∨j=2∨j=3∨j=4∨j=5∨j=6∨j=7∨j=8∨j=9∨j=10 by omega) with rfl|rfl|rfl|rfl|rfl|rfl|rfl|rfl|rfl|rfl|rfl<;>first|(simp only[lkD,Option.some.injEq] at e;subst e;simp;done)|(simp[lkD] at e))))
 simp only[List.foldl] at ep
 rw[e13,e14] at ep
 clear hs hd hkp e13 e14
 generalize a.tmps.getD 17 undef=g17,a.tmps.getD 18 undef=g18,a.tmps.getD 19 undef=g19,a.tmps.getD 20 undef=g20,a.tmps.getD 21 undef=g21,a.tmps.getD 22 undef=g22,a.tmps.getD 23 undef=g23 at ep
 simp only[Act.put,List.setIfInBounds_toArray,List.set_cons_succ,List.set_cons_zero] at ep
 subst ep
 have hb:=bTn hb1 hb2
 have hx2:=hx.below hb
 have QC:=hdn qc
 have QL:=hdn ql
 have QA:=hdn (q2.kept hb2)
 have yy0:=ql.cell 0 (v:=.slice (Y i 0).a (Y i 0).n (Y i 0).c) rfl
 clear qc ql hb1 hb2 q1 q2 hx hM
 go_wp2_with (first
  | (go_at_call 148;refine (kr _ hb _ _ _ hx2).mono ?_;rintro e W3 ⟨⟨a3,c3,rfl,r3,-⟩,h3⟩;clear kr;have hb3:=bTn hb h3;have QC':=hdn (QC.out.kept h3);clear QC;have QC:=QC';clear QC';have QL':=hdn (QL.out.kept h3);clear QL;have QL:=QL';clear QL';have QA':=hdn (QA.out.kept h3);clear QA;have QA:=QA';clear QA';have y1:=QL.out.cell 1 (v:=.slice (Y i 1).a (Y i 1).n (Y i 1).c) rfl;have z3:=QC.out.cell 0 (v:=.int .i64 M.d) rfl;clear h3 hx2)
  | (go_at_call 145;refine (mdmust_yes _ _ _ _).mono ?_;rintro e w' ⟨rfl,hq⟩;obtain rfl:=hq.symm;clear hq)
  | (go_at_call 157;refine (kq _ hb3 _ _ _ r3).mono ?_;rintro e W4 ⟨⟨a4,c4,rfl,r4,l4,-⟩,h4⟩;clear kq;have hb4:=bTn hb3 h4;have QC':=hdn (QC.out.kept h4);clear QC;have QC:=QC';clear QC';have QL':=hdn (QL.out.kept h4);clear QL;have QL:=QL';clear QL';have QA':=hdn (QA.out.kept h4);clear QA;have QA:=QA';clear QA';replace r3:=r3.below h4;have y2:=QL.out.cell 2 (v:=.slice (Y i 2).a (Y i 2).n (Y i 2).c) rfl;have z4:=QC.out.cell 0 (v:=.int .i64 M.d) rfl;clear h4 y1 z3)
  | (go_at_call 157;refine (kk _ hb4 _ _ _ r3).mono ?_;rintro e W5 ⟨⟨a5,c5,rfl,r5,l5,-⟩,h5⟩;clear kk;have hb5:=bTn hb4 h5;have QC':=hdn (QC.out.kept h5);clear QC;have QC:=QC';clear QC';have QL':=hdn (QL.out.kept h5);clear QL;have QL:=QL';clear QL';have QA':=hdn (QA.out.kept h5);clear QA;have QA:=QA';clear QA';replace r3:=r3.below h5;replace r4:=r4.below h5;have y3:=QL.out.cell 3 (v:=.slice (Y i 3).a (Y i 3).n (Y i 3).c) rfl;have z5:=QC.out.cell 0 (v:=.int .i64 M.d) rfl;clear h5 y2 z4)
  | (go_at_call 157;refine (kv _ hb5 _ _ _ r3).mono ?_;rintro e W6 ⟨⟨a6,c6,rfl,r6,l6,f6⟩,h6⟩;clear kv;have FV:Hid (∀ x,a6=some x→w.heap.size≤x.block):=fun x hx=>Nat.le_trans hb5.size (f6 x hx);clear f6;have hb6:=bTn hb5 h6;have QC':=hdn (QC.out.kept h6);clear QC;have QC:=QC';clear QC';have QL':=hdn (QL.out.kept h6);clear QL;have QL:=QL';clear QL';have QA':=hdn (QA.out.kept h6);clear QA;have QA:=QA';clear QA';replace r3:=r3.below h6;replace r4:=r4.below h6;replace r5:=r5.below h6;obtain⟨s0,s1,s2⟩:=QA.out.c3;clear h6 y3 z5)
  | (go_at_call 107;refine (kg _).mono ?_;rintro e W7 ⟨rfl,h7⟩;clear kg;have hb7:=bTn hb6 h7;have QC':=hdn (QC.out.kept h7);clear QC;have QC:=QC';clear QC';have QL':=hdn (QL.out.kept h7);clear QL;have QL:=QL';clear QL';have QA':=hdn (QA.out.kept h7);clear QA;have QA:=QA';clear QA';replace r3:=r3.below h7;replace r4:=r4.below h7;replace r5:=r5.below h7;replace r6:=r6.below h7;have s2':=QA.out.cell 2 (v:=.slice (some y0) M.m.ln La.c) rfl;have d0:=cg _ hb7 0 (by omega);have d1:=cg _ hb7 1 (by omega);have d2:=cg _ hb7 2 (by omega);have d3:=cg _ hb7 3 (by omega);unfold SL.v at d0 d1 d2 d3;simp only[Addr.add_zero',Addr.add_succ'] at d0 d1 d2 d3;have n8:=bNw (Below.refl W7.heap.size W7) (.cells #[.slice (Ya i 0).a (Ya i 0).n (Ya i 0).c,.slice (Ya i 1).a (Ya i 1).n (Ya i 1).c,.slice (Ya i 2).a (Ya i 2).n (Ya i 2).c,.slice (Ya i 3).a (Ya i 3).n (Ya i 3).c] 63);have hb8:=bTn hb7 n8;have QG:=hdn (Blk.new 63 W7 #[.slice (Ya i 0).a (Ya i 0).n (Ya i 0).c,.slice (Ya i 1).a (Ya i 1).n (Ya i 1).c,.slice (Ya i 2).a (Ya i 2).n (Ya i 2).c,.slice (Ya i 3).a (Ya i 3).n (Ya i 3).c]);have QA8:=hdn (QA.out.kept n8);have QC8:=hdn (QC.out.kept n8);clear QA QC;have QA:=QA8;have QC:=QC8;clear QA8 QC8;replace r3:=r3.below n8;replace r4:=r4.below n8;replace r5:=r5.below n8;replace r6:=r6.below n8;have g0:=QG.out.cell 0 (v:=.slice (Ya i 0).a (Ya i 0).n (Ya i 0).c) rfl;have g1:=QG.out.cell 1 (v:=.slice (Ya i 1).a (Ya i 1).n (Ya i 1).c) rfl;have s0:=QA.out.cell 0 (v:=.int .i64 M.r) rfl;have s1:=QA.out.cell 1 (v:=.int .i64 M.s) rfl;clear h7 n8 cg)
  | (go_at_call 175;refine (ka _ hb8 _ _ _ r3).mono ?_;rintro e W9 ⟨⟨a9,c9,rfl,r9⟩,h9⟩;clear ka;have hb9:=bTn hb8 h9;have QC':=hdn (QC.out.kept h9);clear QC;have QC:=QC';clear QC';have QA':=hdn (QA.out.kept h9);clear QA;have QA:=QA';clear QA';have QG':=hdn (QG.out.kept h9);clear QG;have QG:=QG';clear QG';replace r3:=r3.below h9;replace r4:=r4.below h9;replace r5:=r5.below h9;replace r6:=r6.below h9;clear h9 g0 g1 s0 s1)
  | (go_at_call 174;refine (k1 _ _ _ _ _ _ _ r4 r9).mono ?_;rintro e W10 ⟨⟨a10,c10,rfl,r10,l10,-⟩,h10⟩;clear k1;have hb10:=bTn hb9 h10;have QC':=hdn (QC.out.kept h10);clear QC;have QC:=QC';clear QC';have QA':=hdn (QA.out.kept h10);clear QA;have QA:=QA';clear QA';have QG':=hdn (QG.out.kept h10);clear QG;have QG:=QG';clear QG';replace r3:=r3.below h10;replace r5:=r5.below h10;replace r6:=r6.below h10;have g2:=QG.out.cell 2 (v:=.slice (Ya i 2).a (Ya i 2).n (Ya i 2).c) rfl;have g3:=QG.out.cell 3 (v:=.slice (Ya i 3).a (Ya i 3).n (Ya i 3).c) rfl;have s0:=QA.out.cell 0 (v:=.int .i64 M.r) rfl;have s1:=QA.out.cell 1 (v:=.int .i64 M.s) rfl;clear h10 r4 r9)
  | (go_at_call 175;refine (kb _ hb10 _ _ _ r3).mono ?_;rintro e W11 ⟨⟨a11,c11,rfl,r11⟩,h11⟩;clear kb;have hb11:=bTn hb10 h11;have QC':=hdn (QC.out.kept h11);clear QC;have QC:=QC';clear QC';replace r5:=r5.below h11;replace r6:=r6.below h11;replace r10:=r10.below h11;clear h11 g2 g3 s0 s1 r3)
  | (go_at_call 174;refine (k2 _ _ _ _ _ _ _ r6 r11).mono ?_;rintro e W12 ⟨⟨a12,c12,rfl,r12,l12,f12⟩,h12⟩;clear k2;have FW:Hid (∀ x,a12=some x→w.heap.size≤x.block):=fun x hx=>Nat.le_trans hb11.size (f12 x hx);clear f12;have hb12:=bTn hb11 h12;have QC':=hdn (QC.out.kept h12);clear QC;have QC:=QC';clear QC';replace r5:=r5.below h12;replace r10:=r10.below h12;clear h12 r6 r11))
 refine lh_region cb M.D c10 c5 c12 a10 a5 a12 M.h p (headsL (plusL (matL (M.m.f i 1) (rmsZ x (M.m.f i 0) M.D)) (applR (M.a.f i 0) (M.a.f i (0+1)) M.r M.s (rmsZ x (M.m.f i 0) M.D))) p (M.D/M.H) M.H) (headsL (matL (M.m.f i 2) (rmsZ x (M.m.f i 0) M.D)) p (M.D/M.H) M.H) (fun W=>Below W12.heap.size W12 W) (by kernel_rfl) rfl ⟨_,rfl,rfl,rfl,rfl,by kernel_rfl⟩ ⟨_,rfl,rfl,rfl,rfl,by kernel_rfl⟩ ⟨_,rfl,rfl,rfl,rfl,by kernel_rfl⟩ ⟨_,rfl,rfl,rfl,rfl,by kernel_rfl⟩ ⟨_,rfl,rfl,rfl,rfl,by kernel_rfl⟩ ⟨_,rfl,rfl,rfl,rfl,by kernel_rfl⟩ ⟨_,rfl,rfl,rfl,rfl,by kernel_rfl⟩ ⟨_,rfl,rfl,rfl,rfl,by kernel_rfl⟩ ⟨_,rfl,rfl,rfl,rfl,by kernel_rfl⟩ ⟨_,rfl,rfl,rfl,rfl,by kernel_rfl⟩ ⟨_,rfl,rfl,rfl,rfl,by kernel_rfl⟩ ⟨_,rfl,rfl,rfl,rfl,by kernel_rfl⟩ ⟨_,rfl,rfl,rfl,rfl,by kernel_rfl⟩ ⟨_,rfl,rfl,rfl,rfl,by kernel_rfl⟩ ⟨_,rfl,rfl,rfl,rfl,by kernel_rfl⟩ ⟨_,rfl,rfl,rfl,rfl,by kernel_rfl⟩ ⟨_,rfl,rfl,rfl,rfl,by kernel_rfl⟩ ⟨_,rfl,rfl,rfl,rfl,by kernel_rfl⟩ ⟨_,rfl,rfl,rfl,rfl,by kernel_rfl⟩ ⟨_,rfl,rfl,rfl,rfl,by kernel_rfl⟩ (Below.refl _ _).drew (run_field23 _ 1 (by omega)) (fun W hb=>run_load3 ((QC.out.kept hb).cell 1 (v:=.int .i64 M.h) rfl)) (fun W hb=>(md_heads F p hp W _ _ _ (r10.below hb) l10).mono fun e w' ⟨⟨a,c,q1,q2,q3⟩,q4⟩=>⟨a,c,q1,q2,q3,q4,bTn hb q4⟩) trivial (run_field23 _ 1 (by omega)) (fun W hb=>run_load3 ((QC.out.kept hb).cell 1 (v:=.int .i64 M.h) rfl)) (fun W hb=>(md_heads F p hp W _ _ _ (r5.below hb) l5).mono fun e w' ⟨⟨a,c,q1,q2,q3⟩,q4⟩=>⟨a,c,q1,q2,q3,q4,bTn hb q4⟩) trivial rfl rfl rfl rfl rfl (Nat.le_of_ble_eq_true rfl) ?_
 intro a W9 hs hd hkp hS9 hval
 have e12:a.tmps.getD 12 undef=.slice a12 M.D c12:=hval 19 12 (by decide) rfl
 obtain⟨q9,qc9,e10,f10,z10⟩:=hval 17 10 (by decide) rfl
 obtain⟨k9,kc9,e11,f11,z11⟩:=hval 18 11 (by decide) rfl
 have ep:=fPu [101,102,103,104,105,106,107,108,109,110,111,112,113,114,115,116,117,10,11,12] hs hd (fun s h=>hkp s (fun i hi e=>h (by
  rcases (show i=0∨i=1∨i=2∨i=3∨i=4∨i=5∨i=6∨i=7∨i=8∨i=9∨i=10∨i=11∨i=12∨i=13∨i=14∨i=15∨i=16∨i=17∨i=18∨i=19 by omega) with rfl|rfl|rfl|rfl|rfl|rfl|rfl|rfl|rfl|rfl|rfl|rfl|rfl|rfl|rfl|rfl|rfl|rfl|rfl|rfl<;>(simp only[lhD,Option.some.injEq] at e;subst e;simp))))
 simp only[List.foldl] at ep
 rw[e12] at ep
 rw[e10] at ep
 rw[e11] at ep
 have H9:=hdn hS9
 clear hs hd hkp hval hS9 e12 e10 e11
 generalize a.tmps.getD 101 undef=g101,a.tmps.getD 102 undef=g102,a.tmps.getD 103 undef=g103,a.tmps.getD 104 undef=g104,a.tmps.getD 105 undef=g105,a.tmps.getD 106 undef=g106,a.tmps.getD 107 undef=g107,a.tmps.getD 108 undef=g108,a.tmps.getD 109 undef=g109,a.tmps.getD 110 undef=g110,a.tmps.getD 111 undef=g111,a.tmps.getD 112 undef=g112,a.tmps.getD 113 undef=g113,a.tmps.getD 114 undef=g114,a.tmps.getD 115 undef=g115,a.tmps.getD 116 undef=g116,a.tmps.getD 117 undef=g117 at ep
 simp only[Act.put,List.setIfInBounds_toArray,List.set_cons_succ,List.set_cons_zero] at ep
 subst ep
 have fv:=r12.below H9.out
 have hbE:=bTn hb12 H9.out
 go_wp2
 refine bodyPost_ret (v:=.tuple #[.slice q9 M.D qc9,.slice k9 M.D kc9,.slice a12 M.D c12]) ?_ rfl ⟨⟨q9,qc9,k9,kc9,a12,c12,rfl,⟨f10,z10⟩,⟨f11,z11⟩,fv,l12,FW.out⟩,hbE⟩
 simp[results,Tryz.results143,go_sem]
theorem looks_call (M:Md)(E L N O:SL)(Y U D:Nat→Nat→SL)(La:SL)(Ya:Nat→Nat→SL)(F:MdFit M)(hok:M.r≠0→∃ R,AdFit M R)(i:Nat)(hi:i<M.m.ln)(p:Int)(hp:0≤p∧p≤1000)(w:World)(hM:ModAt w E L N O Y U D M.m)(hA:AdAt w La Ya M.a)(ax:Option Addr)(cx:Nat)(x:List Int)(hx:Reads .i64 w ax M.D x) :
  Calls Tryz.prog 143 #[.agg #[.int .i64 M.d,.int .i64 M.h,.int .i64 M.l,.int .i64 M.v,.int .i64 M.u,.int .i64 M.x,.int .i64 M.t,.int .i64 M.n,.slice E.a E.n E.c,.slice L.a L.n L.c,.slice N.a N.n N.c,.slice O.a O.n O.c],.agg #[.int .i64 M.r,.int .i64 M.s,.slice La.a La.n La.c],.int .i64 i,.int .i64 p,.slice ax M.D cx] w fun e w'=>(∃ q cq k ck v cv,e=.returned (.tuple #[.slice q M.D cq,.slice k M.D ck,.slice v M.D cv])∧(Reads .i64 w' q M.D (qL M p i x)∧M.D≤cq)∧(Reads .i64 w' k M.D (kL M p i x)∧M.D≤ck)∧(Reads .i64 w' v M.D (vL M i x)∧M.D≤cv∧∀ x,v=some x→w.heap.size≤x.block))∧Below w.heap.size w w':=by
 obtain⟨x0,hx0⟩:=hM.some_ (by omega)
 by_cases hr0:M.r=0
 ·have:=looks_no M E L N O Y U D La Ya x0 F hr0 i hi p hp w hM hx0 ax cx x hx
  rw[hx0,hM.len]
  exact this
 ·obtain⟨R,A⟩:=hok hr0
  obtain⟨y0,hy0⟩:=hA.some_ (by rw[A.ln];omega)
  have:=looks_yes M E L N O Y U D La Ya x0 y0 F hr0 R A i hi p hp w hM hA hx0 hy0 ax cx x hx
  rw[hx0,hM.len,hy0,hA.len,A.ln]
  exact this
theorem mdrun_add3 (x y z:Int)(e:x+y=z)(h0:-1000≤z)(h1:z≤1000)(w:World):(binOp .add 3 (.int .i64 x) (.int .i64 y)).run Tryz.prog w=.ok (.int .i64 z) w:=by
 subst e
 have:IntKind.i64.wrap (x+y)=x+y:=by rw[IntKind.wrap_i64];omega
 go_simp
theorem run_sub3 (x y z:Int)(e:x-y=z)(h0:-1000≤z)(h1:z≤1000)(w:World):(binOp .sub 3 (.int .i64 x) (.int .i64 y)).run Tryz.prog w=.ok (.int .i64 z) w:=by
 subst e
 have:IntKind.i64.wrap (x-y)=x-y:=by rw[IntKind.wrap_i64];omega
 go_simp
theorem see_bounds {p v:Int}(hp:0≤p∧p<24)(hv:0≤v∧v≤16):0≤seeZ p v∧seeZ p v≤p:=by
 unfold seeZ
 split
 ·omega
 ·split<;>omega
theorem wOf {M:Md}(F:MdFit M)(ok:okB M.d M.h M.l M.v M.u M.x M.t M.n=true):widthZ M.d M.h M.l M.v M.u M.x M.t M.n=((2*M.m.ln*M.D:Nat):Int):=by
 unfold widthZ
 rw[if_pos ok,F.eD,F.el,Int.natCast_mul,Int.natCast_mul,Int.mul_assoc,Int.mul_assoc,Int.mul_comm (M.D:Int)]
 rfl
theorem wd_bound {M:Md}(F:MdFit M):2*M.m.ln*M.D≤32:=by
 have h:=Nat.mul_le_mul (Nat.mul_le_mul_left 2 F.l1) F.d1
 exact h
theorem wider {w:World}{B B':Nat}{e:TypeId}{v:Value}{n:Nat}{xs:List Value}(h:B≤B')(o:(v=.slice none 0 0∧n=0)∨∃ g cap cur,v=.slice (some ⟨g,0,none⟩) n cap∧B'≤g∧w.heap[g]? = some (.cells cur e (0,0))∧n≤cap∧cap≤maxLen∧cur.size=cap*1∧cur.toList.take (n*1)=xs):(v=.slice none 0 0∧n=0)∨∃ g cap cur,v=.slice (some ⟨g,0,none⟩) n cap∧B≤g∧w.heap[g]? = some (.cells cur e (0,0))∧n≤cap∧cap≤maxLen∧cur.size=cap*1∧cur.toList.take (n*1)=xs:=by
 rcases o with o|⟨g,cap,cur,o1,o2,o3⟩
 ·exact .inl o
 ·exact .inr ⟨g,cap,cur,o1,by omega,o3⟩
theorem OwnGrid.drew {B:Nat}{w:World}{v:Value}{k:Nat}{A:Nat→Option Addr}{C:Nat→Nat}{R:Nat→List Int}(h:OwnGrid B w v k A C R):OwnGrid B w.drew v k A C R:=⟨h.own,fun r hr=>(h.row r hr).carry (fun _ _ hc=>hc),h.apart⟩
theorem map_one {zs:List Int}:∀ u∈zs.map (Value.int .i64),u.oneCell'=true:=fun u hu=>by
 obtain⟨z,_,rfl⟩:=List.mem_map.1 hu
 rfl
theorem map_cells {w:World}{x:Addr}{n:Nat}{zs:List Int}(h:Reads .i64 w (some x) n zs):∀ j u,(zs.map (Value.int .i64))[j]? = some u→w.cell? (x.add j)=some u:=fun j u hu=>by
 have hj:j<zs.length:=by
  have:=(List.getElem?_eq_some_iff.1 hu).1
  simpa using this
 rw[h.cell x rfl j (by rw[←h.len];exact hj),←hu]
 simp[hj]
theorem step_walk (M:Md)(E L N O:SL)(Y U D:Nat→Nat→SL)(La:SL)(Ya:Nat→Nat→SL)(x0:Addr)(F:MdFit M)(ok:okB M.d M.h M.l M.v M.u M.x M.t M.n=true)(hok:M.r≠0→∃ R,AdFit M R)(p:Int)(hp:0≤p∧p<24)(tok:Nat)(ht:(tok:Int)<M.v)(w:World)(hM:ModAt w E L N O Y U D M.m)(hA:AdAt w La Ya M.a)(hx0:L.a=some x0)
  (pa:Option Addr) (n pc:Nat) (A:Nat→Option Addr) (C:Nat→Nat) (P:Nat→List Int) (hP:Grid w pa n A C P) (hC:∀ r,r<n→(P r).length≤C r) (hcn:(n:Int)=p-seeZ p M.n) (hW:∀ r,r<n→(P r).length=2*M.m.ln*M.D) :
  Calls Tryz.prog 110 #[.agg #[.int .i64 M.d,.int .i64 M.h,.int .i64 M.l,.int .i64 M.v,.int .i64 M.u,.int .i64 M.x,.int .i64 M.t,.int .i64 M.n,.slice E.a E.n E.c,.slice (some x0) M.m.ln L.c,.slice N.a N.n N.c,.slice O.a O.n O.c],.agg #[.int .i64 M.r,.int .i64 M.s,.slice La.a La.n La.c],.slice pa n pc,.int .i64 p,.int .i64 tok] w fun e w'=>(∃ a c b k,e=.returned (.tuple #[.slice a (2*M.m.ln*M.D) c,.slice b M.D k])∧Reads .i64 w' a (2*M.m.ln*M.D) (rowL M p P n tok)∧2*M.m.ln*M.D≤c∧Reads .i64 w' b M.D (outL M p P n tok)∧(∀ x,a=some x→w.heap.size≤x.block)∧∀ x,b=some x→w.heap.size≤x.block)∧Below w.heap.size w w':=by
 obtain⟨i0,hi2,hz0,hz1,hz2⟩:=info_parts info2
 have d0:=F.d0
 have d1:=F.d1
 have l0:=F.l0
 have l1:=F.l1
 have hD0:0<M.D:=by omega
 have wdb:=wd_bound F
 have ewd:=wOf F ok
 have sb:=see_bounds hp ⟨F.n0,F.n1⟩
 have wp:(Lit.int .i64 p).wf=true:=wf_small (by omega) (by omega)
 have wn:(Lit.int .i64 M.n).wf=true:=wf_small (by have:=F.n0;omega) (by have:=F.n1;omega)
 have t1:(0:Int)≤p:=hp.1
 have t2:p<24:=hp.2
 have d1':decide ((0:Int)≤p)=true:=decide_eq_true t1
 have d2':decide (p<24)=true:=decide_eq_true t2
 have t3:(0:Int)≤(tok:Int):=by omega
 have t4:(tok:Int)<M.v:=ht
 have d3':decide ((0:Int)≤(tok:Int))=true:=decide_eq_true t3
 have d4':decide ((tok:Int)<M.v)=true:=decide_eq_true t4
 have hn24:n≤24:=by omega
 have kl:∀ (W:World) (hb:Below w.heap.size w W) (k:Nat) (hk:k<M.m.ln) ax cx x (hx:Reads .i64 W ax M.D x),Calls Tryz.prog 143 #[.agg #[.int .i64 M.d,.int .i64 M.h,.int .i64 M.l,.int .i64 M.v,.int .i64 M.u,.int .i64 M.x,.int .i64 M.t,.int .i64 M.n,.slice E.a E.n E.c,.slice (some x0) M.m.ln L.c,.slice N.a N.n N.c,.slice O.a O.n O.c],.agg #[.int .i64 M.r,.int .i64 M.s,.slice La.a La.n La.c],.int .i64 k,.int .i64 p,.slice ax M.D cx] W fun e w'=>(∃ q cq kk ck v cv,e=.returned (.tuple #[.slice q M.D cq,.slice kk M.D ck,.slice v M.D cv])∧(Reads .i64 w' q M.D (qL M p k x)∧M.D≤cq)∧(Reads .i64 w' kk M.D (kL M p k x)∧M.D≤ck)∧(Reads .i64 w' v M.D (vL M k x)∧M.D≤cv∧∀ x,v=some x→W.heap.size≤x.block))∧Below W.heap.size W w':=fun W hb k hk ax cx x hx=>by
  have:=looks_call M E L N O Y U D La Ya F hok k hk p ⟨hp.1,by omega⟩ W (hM.below hb) (hA.below hb) ax cx x hx
  rw[hx0,hM.len] at this
  exact this
 have kw:∀ (W:World) (hb:Below w.heap.size w W) (k:Nat) (hk:k<M.m.ln) ax cx x ao co o (hx:Reads .i64 W ax M.D x) (ho:Reads .i64 W ao M.D o),Calls Tryz.prog 147 #[.agg #[.int .i64 M.d,.int .i64 M.h,.int .i64 M.l,.int .i64 M.v,.int .i64 M.u,.int .i64 M.x,.int .i64 M.t,.int .i64 M.n,.slice E.a E.n E.c,.slice (some x0) M.m.ln L.c,.slice N.a N.n N.c,.slice O.a O.n O.c],.int .i64 k,.slice ax M.D cx,.slice ao M.D co] W fun e w'=>(∃ a c,e=.returned (.slice a M.D c)∧Reads .i64 w' a M.D (wkL M k x o)∧∀ x,a=some x→W.heap.size≤x.block)∧Below W.heap.size W w':=fun W hb k hk ax cx x ao co o hx ho=>worked_walk M E L N O Y U D x0 F k hk W (hM.below hb) hx0 ax cx x ao co o hx ho
 have ke:∀ (W:World) (hb:Below w.heap.size w W),Calls Tryz.prog 142 #[.agg #[.int .i64 M.d,.int .i64 M.h,.int .i64 M.l,.int .i64 M.v,.int .i64 M.u,.int .i64 M.x,.int .i64 M.t,.int .i64 M.n,.slice E.a E.n E.c,.slice (some x0) M.m.ln L.c,.slice N.a N.n N.c,.slice O.a O.n O.c],.int .i64 tok] W fun e w'=>(∃ a c,e=.returned (.slice a M.D c)∧Reads .i64 w' a M.D (embL M tok)∧∀ x,a=some x→W.heap.size≤x.block)∧Below W.heap.size W w':=fun W hb=>by
  have:=embedded_call M E L N O Y U D F W (hM.below hb) tok ht
  rw[hx0,hM.len] at this
  exact this
 have kn:=fun (W:World) (hb:Below w.heap.size w W) a c xs=>md_rms F N _ F.nm W (hM.nm.below hb) a c xs
 have kwd:∀ W,Calls Tryz.prog 141 #[.agg #[.int .i64 M.d,.int .i64 M.h,.int .i64 M.l,.int .i64 M.v,.int .i64 M.u,.int .i64 M.x,.int .i64 M.t,.int .i64 M.n]] W fun e w'=>e=.returned (.int .i64 ((2*M.m.ln*M.D:Nat):Int))∧Below W.heap.size W w':=fun W=>by
  have:=md_width M.d M.h M.l M.v M.u M.x M.t M.n W
  rw[ewd] at this
  exact this
 have hb0:=bNw (bNw (bNw (Below.refl w.heap.size w) (.cells #[.int .i64 M.d,.int .i64 M.h,.int .i64 M.l,.int .i64 M.v,.int .i64 M.u,.int .i64 M.x,.int .i64 M.t,.int .i64 M.n,.slice E.a E.n E.c,.slice (some x0) M.m.ln L.c,.slice N.a N.n N.c,.slice O.a O.n O.c] 34)) (.cells #[.int .i64 M.r,.int .i64 M.s,.slice La.a La.n La.c] 37)) (.cells #[.int .i64 M.d,.int .i64 M.h,.int .i64 M.l,.int .i64 M.v,.int .i64 M.u,.int .i64 M.x,.int .i64 M.t,.int .i64 M.n] 23)
 have q1:Blk 34 (((w.alloc (.cells #[.int .i64 M.d,.int .i64 M.h,.int .i64 M.l,.int .i64 M.v,.int .i64 M.u,.int .i64 M.x,.int .i64 M.t,.int .i64 M.n,.slice E.a E.n E.c,.slice (some x0) M.m.ln L.c,.slice N.a N.n N.c,.slice O.a O.n O.c] 34)).alloc (.cells #[.int .i64 M.r,.int .i64 M.s,.slice La.a La.n La.c] 37)).alloc (.cells #[.int .i64 M.d,.int .i64 M.h,.int .i64 M.l,.int .i64 M.v,.int .i64 M.u,.int .i64 M.x,.int .i64 M.t,.int .i64 M.n] 23)) w.heap.size #[.int .i64 M.d,.int .i64 M.h,.int .i64 M.l,.int .i64 M.v,.int .i64 M.u,.int .i64 M.x,.int .i64 M.t,.int .i64 M.n,.slice E.a E.n E.c,.slice (some x0) M.m.ln L.c,.slice N.a N.n N.c,.slice O.a O.n O.c]:=(Blk.new 34 w _).kept (bNw (bNw (Below.refl _ _) _) _)
 have q2:Blk 37 (((w.alloc (.cells #[.int .i64 M.d,.int .i64 M.h,.int .i64 M.l,.int .i64 M.v,.int .i64 M.u,.int .i64 M.x,.int .i64 M.t,.int .i64 M.n,.slice E.a E.n E.c,.slice (some x0) M.m.ln L.c,.slice N.a N.n N.c,.slice O.a O.n O.c] 34)).alloc (.cells #[.int .i64 M.r,.int .i64 M.s,.slice La.a La.n La.c] 37)).alloc (.cells #[.int .i64 M.d,.int .i64 M.h,.int .i64 M.l,.int .i64 M.v,.int .i64 M.u,.int .i64 M.x,.int .i64 M.t,.int .i64 M.n] 23)) (w.heap.size+1) #[.int .i64 M.r,.int .i64 M.s,.slice La.a La.n La.c]:=(Blk.new_at 37 (w.alloc _) _ _ (by simp)).kept (bNw (Below.refl _ _) _)
 have q3:Blk 23 (((w.alloc (.cells #[.int .i64 M.d,.int .i64 M.h,.int .i64 M.l,.int .i64 M.v,.int .i64 M.u,.int .i64 M.x,.int .i64 M.t,.int .i64 M.n,.slice E.a E.n E.c,.slice (some x0) M.m.ln L.c,.slice N.a N.n N.c,.slice O.a O.n O.c] 34)).alloc (.cells #[.int .i64 M.r,.int .i64 M.s,.slice La.a La.n La.c] 37)).alloc (.cells #[.int .i64 M.d,.int .i64 M.h,.int .i64 M.l,.int .i64 M.v,.int .i64 M.u,.int .i64 M.x,.int .i64 M.t,.int .i64 M.n] 23)) (w.heap.size+1+1) #[.int .i64 M.d,.int .i64 M.h,.int .i64 M.l,.int .i64 M.v,.int .i64 M.u,.int .i64 M.x,.int .i64 M.t,.int .i64 M.n]:=Blk.new_at 23 ((w.alloc _).alloc _) _ _ (by simp)
 obtain⟨wd,eWd⟩:∃ wd,2*M.m.ln*M.D=wd:=⟨_,rfl⟩
 have hln8:=hM.len
 rw[eWd] at hW kwd wdb ewd ⊢
 unfold rowL outL
 have HM:=hdn hM
 clear hM hA
 go_enter Tryz.func110,Tryz.ntmps110
 go_wp2_with (go_at_call 139;refine (mdneed_yes _ _).mono ?_;rintro e w' ⟨rfl,hq⟩;obtain rfl:=hq.symm;clear hq)
 have Q3:=hdn q3
 refine sf_region M (w.heap.size+1+1) n pc pa p (seeZ p M.n) (n:Int) (widthZ M.d M.h M.l M.v M.u M.x M.t M.n) true (fun W=>Below (((w.alloc (.cells #[.int .i64 M.d,.int .i64 M.h,.int .i64 M.l,.int .i64 M.v,.int .i64 M.u,.int .i64 M.x,.int .i64 M.t,.int .i64 M.n,.slice E.a E.n E.c,.slice (some x0) M.m.ln L.c,.slice N.a N.n N.c,.slice O.a O.n O.c] 34)).alloc (.cells #[.int .i64 M.r,.int .i64 M.s,.slice La.a La.n La.c] 37)).alloc (.cells #[.int .i64 M.d,.int .i64 M.h,.int .i64 M.l,.int .i64 M.v,.int .i64 M.u,.int .i64 M.x,.int .i64 M.t,.int .i64 M.n] 23)).heap.size (((w.alloc (.cells #[.int .i64 M.d,.int .i64 M.h,.int .i64 M.l,.int .i64 M.v,.int .i64 M.u,.int .i64 M.x,.int .i64 M.t,.int .i64 M.n,.slice E.a E.n E.c,.slice (some x0) M.m.ln L.c,.slice N.a N.n N.c,.slice O.a O.n O.c] 34)).alloc (.cells #[.int .i64 M.r,.int .i64 M.s,.slice La.a La.n La.c] 37)).alloc (.cells #[.int .i64 M.d,.int .i64 M.h,.int .i64 M.l,.int .i64 M.v,.int .i64 M.u,.int .i64 M.x,.int .i64 M.t,.int .i64 M.n] 23)) W) (by kernel_rfl) rfl ⟨_,rfl,rfl,rfl,rfl,by kernel_rfl⟩ ⟨_,rfl,rfl,rfl,rfl,by kernel_rfl⟩ ⟨_,rfl,rfl,rfl,rfl,by kernel_rfl⟩ ⟨_,rfl,rfl,rfl,rfl,by kernel_rfl⟩ ⟨_,rfl,rfl,rfl,rfl,by kernel_rfl⟩ ⟨_,rfl,rfl,rfl,rfl,by kernel_rfl⟩ ⟨_,rfl,rfl,rfl,rfl,by kernel_rfl⟩ ⟨_,rfl,rfl,rfl,rfl,by kernel_rfl⟩ ⟨_,rfl,rfl,rfl,rfl,by kernel_rfl⟩ ⟨_,rfl,rfl,rfl,rfl,by kernel_rfl⟩ ⟨_,rfl,rfl,rfl,rfl,by kernel_rfl⟩ (Below.refl _ _).drew (run_field23 _ 7 (by omega)) (fun W hb=>run_load3 ((Q3.out.kept hb).cell 7 (v:=.int .i64 M.n) rfl)) (fun W=>visible_call p M.n wp wn W) (fun W=>run_sub3 _ _ _ hcn.symm (by omega) (by omega) W) (fun W hb=>run_load23 (Q3.out.kept hb)) (fun W hb=>(md_width M.d M.h M.l M.v M.u M.x M.t M.n W).mono fun e w' ⟨q1,q2⟩=>⟨q1,q2,bTn hb q2⟩) (fun W hb=>mdfits_loop pa n pc A C P (n:Int) _ W (hP.below (bTn hb0 hb)) rfl true (fun _=>rfl) (fun r hr h=>absurd (by rw[ewd,hW r hr]) h)) (fun W=>mdneed_yes 21 W) rfl rfl rfl (Nat.le_of_ble_eq_true rfl) ?_
 intro a W9 hs hd hkp hS9 hval
 have ep:=fPu [41,42,43,44,45,46,47,48,49,50,51] hs hd (fun s h=>hkp s (fun i hi e=>h (by
  rcases (show i=0∨i=1∨i=2∨i=3∨i=4∨i=5∨i=6∨i=7∨i=8∨i=9∨i=10 by omega) with rfl|rfl|rfl|rfl|rfl|rfl|rfl|rfl|rfl|rfl|rfl<;>(simp only[sfD,Option.some.injEq] at e;subst e;simp))))
 simp only[List.foldl] at ep
 have H9:=hdn hS9
 clear hs hd hkp hval hS9
 generalize a.tmps.getD 41 undef=g41,a.tmps.getD 42 undef=g42,a.tmps.getD 43 undef=g43,a.tmps.getD 44 undef=g44,a.tmps.getD 45 undef=g45,a.tmps.getD 46 undef=g46,a.tmps.getD 47 undef=g47,a.tmps.getD 48 undef=g48,a.tmps.getD 49 undef=g49,a.tmps.getD 50 undef=g50,a.tmps.getD 51 undef=g51 at ep
 simp only[Act.put,List.setIfInBounds_toArray,List.set_cons_succ,List.set_cons_zero] at ep
 subst ep
 have hb9:=bTn hb0 H9.out
 have Q1:=hdn (q1.kept H9.out)
 have Q2:=hdn (q2.kept H9.out)
 have Q3':=hdn (Q3.out.kept H9.out)
 clear Q3
 have Q3:=Q3'
 clear Q3' q1 q2 q3 hb0 d1' d2' d3' d4' hcn sb H9
 obtain⟨z0,z1,z2,z3,z4,z5,z6,z7⟩:=Q3.out.c8
 go_wp2_with (first
  | (go_at_call 141;refine (kwd _).mono ?_;rintro e W10 ⟨rfl,h10⟩;clear kwd;have hb10:=bTn hb9 h10;have Q1':=hdn (Q1.out.kept h10);have Q2':=hdn (Q2.out.kept h10);have Q3':=hdn (Q3.out.kept h10);clear Q1 Q2 Q3 z0 z1 z2 z3 z4 z5 z6 z7)
  | (at_make;refine wpList_make_own _ rfl _ (.tmp 53) 70 rfl w.heap.size 2 i0 (.int .i64 0) 1 Tryz.underlying70 hi2 hz0 hz1 .i64 .i64 _ wd rfl rfl rfl (by rw[hz2];omega) (by unfold maxLen;omega) hb10.size ?_;intro W11 hown hgrow;have h11:Below W10.heap.size W10 W11:=(Below.refl _ _).grown hgrow (Nat.le_refl _) (fun k h=>by cases h);have hb11:=bTn hb10 h11;have Q1:=hdn (Q1'.out.kept h11);have Q2:=hdn (Q2'.out.kept h11);have Q3:=hdn (Q3'.out.kept h11);obtain⟨a0,a1,a2,a3,a4,a5,a6,a7,a8,a9,a10,a11⟩:=Q1.out.c12;have gl:=(hown.lt _ rfl).2;have gB:w.heap.size+1+1<W10.heap.size:=Q3'.out.lt;clear Q1' Q2' Q3' hgrow h11)
  | (go_at_call 142;refine (ke _ hb11).mono ?_;rintro e W12 ⟨⟨ax,cx,rfl,rx,fx⟩,h12⟩;clear ke;have hb12:=bTn hb11 h12;have Q1':=hdn (Q1.out.kept h12);have Q2':=hdn (Q2.out.kept h12);have Q3':=hdn (Q3.out.kept h12);have hown':=oBe hown h12;have b9:=Q1'.out.cell 9 (v:=.slice (some x0) M.m.ln L.c) rfl;clear Q1 Q2 Q3 hown h12 a0 a1 a2 a3 a4 a5 a6 a7 a8 a9 a10 a11))
 have fx':∀ y,ax=some y→y.block≠W10.heap.size:=fun y hy=>by have:=fx y hy;omega
 obtain⟨g,eg⟩:∃ g,W10.heap.size=g:=⟨_,rfl⟩
 rw[eg] at hown' fx' gl gB ⊢
 clear eg
 go_wp2
 go_loopw [13,14,61] (fun vr vx i wr=>∃ k:Nat,k≤M.m.ln∧i=.int .i64 k∧Below w.heap.size w wr∧Blk 34 wr w.heap.size #[.int .i64 M.d,.int .i64 M.h,.int .i64 M.l,.int .i64 M.v,.int .i64 M.u,.int .i64 M.x,.int .i64 M.t,.int .i64 M.n,.slice E.a E.n E.c,.slice (some x0) M.m.ln L.c,.slice N.a N.n N.c,.slice O.a O.n O.c]∧Blk 37 wr (w.heap.size+1) #[.int .i64 M.r,.int .i64 M.s,.slice La.a La.n La.c]∧Blk 23 wr (w.heap.size+1+1) #[.int .i64 M.d,.int .i64 M.h,.int .i64 M.l,.int .i64 M.v,.int .i64 M.u,.int .i64 M.x,.int .i64 M.t,.int .i64 M.n]∧∃ (m:Nat) (ax:Option Addr) (cx:Nat),m=2*k*M.D∧vr=.slice (some ⟨g,0,none⟩) m wd∧wr.ownsRow w.heap.size 2 1 (.slice (some ⟨g,0,none⟩) m wd) m ((stR M p P n tok k).map (Value.int .i64))∧vx=.slice ax M.D cx∧Reads .i64 wr ax M.D (stX M p P n tok k)∧∀ y,ax=some y→y.block≠g) (fun _ _ i _=>M.m.ln-(intOf i).toNat)
 case atStart=>exact⟨0,Nat.zero_le _,rfl,hb12,Q1'.out,Q2'.out,Q3'.out,0,ax,cx,by omega,rfl,hown',rfl,rx,fx'⟩
 case round =>
  clear hb9 hb10 hb11 hb12 Q1' Q2' Q3' hown' rx fx fx' b9 gl
  obtain⟨k,hk,rfl,hbr,qm,qa_,qc,m,ax,cx,em,rfl,ho,rfl,rx,fx⟩:=hrel
  by_cases hlt:k<M.m.ln
  ·have Q1:=hdn qm
   have Q2:=hdn qa_
   have Q3:=hdn qc
   obtain⟨c0,c1,c2,c3,c4,c5,c6,c7,c8,c9,c10,c11⟩:=qm.c12
   obtain⟨s0,s1,s2⟩:=qa_.c3
   have gl:=(ho.lt g rfl).2
   have gge:=(ho.lt g rfl).1
   have hmul:(k+1)*M.D≤M.m.ln*M.D:=Nat.mul_le_mul_right _ (by omega)
   rw[Nat.succ_mul] at hmul
   have e1:m=2*(k*M.D):=by rw[em,Nat.mul_assoc]
   have e2:wd=2*(M.m.ln*M.D):=by rw[←eWd,Nat.mul_assoc]
   obtain⟨f2,ef2⟩:∃ f2,m+M.D=f2:=⟨_,rfl⟩
   have w1:∀ r,r<n→m+M.D≤(P r).length:=fun r hr=>by rw[hW r hr];omega
   have w2:∀ r,r<n→f2+M.D≤(P r).length:=fun r hr=>by rw[hW r hr];omega
   have iq:(m:Int)+M.d=(f2:Int):=by rw[F.eD];omega
   have hfit:m+M.D+M.D≤wd:=by omega
   have em':2*k*M.D=m:=em.symm
   have esR:stR M p P n tok (k+1)=stR M p P n tok k++(kL M p k (stX M p P n tok k)++vL M k (stX M p P n tok k)):=rfl
   have esX:stX M p P n tok (k+1)=wkL M k (stX M p P n tok k) (oL M p P n k (stX M p P n tok k)):=rfl
   have enm:2*(k+1)*M.D=m+M.D+M.D:=by rw[em,show 2*(k+1)=2*k+2 by omega,Nat.add_mul];omega
   obtain⟨X,eX⟩:∃ X,stX M p P n tok k=X:=⟨_,rfl⟩
   obtain⟨S0,eS0⟩:∃ S0,stR M p P n tok k=S0:=⟨_,rfl⟩
   rw[eX] at rx esR esX
   rw[eS0] at ho esR
   have hkl:=kL_length F p k X
   have hvl:=vL_length F hlt X
   have fk:(partL P n m M.D (kL M p k X) n).length=M.D:=by rw[partL_last];exact hkl
   have fv:(partL P n f2 M.D (vL M k X) n).length=M.D:=by rw[partL_last];exact hvl
   have ek:keysL M p P n k X=partL P n m M.D (kL M p k X):=by unfold keysL;rw[em']
   have evv:valsL M P n k X=partL P n f2 M.D (vL M k X):=by unfold valsL;rw[em',ef2]
   have lkk:∀ r,r<n+1→(partL P n m M.D (kL M p k X) r).length=M.D:=fun r hr=>partL_length P n m M.D _ w1 hkl hr
   have lvv:∀ r,r<n+1→(partL P n f2 M.D (vL M k X) r).length=M.D:=fun r hr=>partL_length P n f2 M.D _ w2 hvl hr
   have k5:∀ (W:World) (u1:Option Addr) (c1:Nat) (A1:Nat→Option Addr) (C1:Nat→Nat) (u2:Option Addr) (c2:Nat) (A2:Nat→Option Addr) (C2:Nat→Nat) (a:Option Addr) (c:Nat),Grid W u1 (n+1) A1 C1 (partL P n m M.D (kL M p k X))→(∀ r,r<n+1→M.D≤C1 r)→Grid W u2 (n+1) A2 C2 (partL P n f2 M.D (vL M k X))→(∀ r,r<n+1→M.D≤C2 r)→Reads .i64 W a M.D (qL M p k X)→M.D≤c →
     Calls Tryz.prog 146 #[.slice a M.D c,.slice u1 (n+1) c1,.slice u2 (n+1) c2,.int .i64 M.h] W fun e w'=>(∃ a c,e=.returned (.tuple #[.slice a M.D c,.int .i64 0])∧Reads .i64 w' a M.D (oL M p P n k X)∧M.D≤c∧∀ x,a=some x→W.heap.size≤x.block)∧Below W.heap.size W w' :=
    fun W u1 c1 A1 C1 u2 c2 A2 C2 a c g1 hc1 g2 hc2 hq hc=>by
     have:=md_all F n (by omega) W a c _ hq hc u1 c1 A1 C1 _ g1 (fun r hr=>by rw[lkk r hr];exact hc1 r hr) u2 c2 A2 C2 _ g2 (fun r hr=>by rw[lvv r hr];exact hc2 r hr) (fun r hr=>⟨lkk r hr,lvv r hr⟩)
     unfold oL
     rw[ek,evv]
     exact this
   have cap1:∀ c10,M.D≤c10→∀ r,r<n+1→M.D≤(fun r=>if r=n then c10 else (fun _=>M.D) r) r:=fun c10 h r hr=>by
    dsimp only
    split
    ·exact h
    ·exact Nat.le_refl _
   have lo:∀ f,(∀ r,r<n→f+M.D≤(P r).length)→∀ r,r<n→∀ x,cutA A f r=some x→x.block<w.heap.size:=fun f hf r hr x hx=>by
    have q:=hP.row r hr
    obtain⟨y,ey⟩:=q.some_ (by have:=hf r hr;omega)
    unfold cutA at hx
    rw[ey] at hx
    obtain rfl:=Option.some.inj hx
    have:=World.block_lt_of_cell? w _ (q.cell y ey 0 (by have:=hf r hr;omega))
    simp only[Addr.add] at this ⊢
    split<;>split at this<;>exact this
   have lo1':=lo m w1
   have lo2':=lo f2 w2
   have Hs:Hid (stR M p P n tok (k+1)=S0++(kL M p k X++vL M k X)∧stX M p P n tok (k+1)=wkL M k X (oL M p P n k X)∧2*(k+1)*M.D=m+M.D+M.D):=⟨esR,esX,enm⟩
   clear eX eS0 esR esX enm lo em em' e1 e2 hmul qm qa_ qc ek evv lkk lvv
   have HO:=hdn ho
   clear ho
   go_wp2_with (go_at_call 143;refine (kl _ hbr k hlt _ _ _ rx).mono ?_;rintro e W13 ⟨⟨qa,cq,ka,ck,va,cv,rfl,⟨rq,lq⟩,⟨rk,lk⟩,rv,lv,fv13⟩,h13⟩;have hb13:=bTn hbr h13;have Q1':=hdn (Q1.out.kept h13);have Q2':=hdn (Q2.out.kept h13);have Q3':=hdn (Q3.out.kept h13);clear Q1 Q2 Q3;have Q1:=Q1';have Q2:=Q2';have Q3:=Q3';clear Q1' Q2' Q3';have rx13:=rx.below h13;have HO13:=hdn (oBe HO.out h13);have s13:=h13.size;clear HO h13 rx c0 c1 c2 c3 c4 c5 c6 c7 c8 c9 c10 c11 s0 s1 s2 kl)
   have lo1:∀ r,r<n→∀ x,cutA A m r=some x→x.block<W13.heap.size:=fun r hr x hx=>Nat.lt_of_lt_of_le (lo1' r hr x hx) hb13.size
   have lo2:∀ r,r<n→∀ x,cutA A f2 r=some x→x.block<W13.heap.size:=fun r hr x hx=>Nat.lt_of_lt_of_le (lo2' r hr x hx) hb13.size
   clear lo1' lo2'
   refine sc_region (w.heap.size+1+1) n pc m f2 W13.heap.size pa M.d (cutA A m) (cutA A f2) (fun _=>M.D) (partL P n m M.D (kL M p k X)) (partL P n f2 M.D (vL M k X)) (fun W=>Below W13.heap.size W13 W) (by kernel_rfl) rfl ⟨_,rfl,rfl,rfl,rfl,by kernel_rfl⟩ ⟨_,rfl,rfl,rfl,rfl,by kernel_rfl⟩ ⟨_,rfl,rfl,rfl,rfl,by kernel_rfl⟩ ⟨_,rfl,rfl,rfl,rfl,by kernel_rfl⟩ ⟨_,rfl,rfl,rfl,rfl,by kernel_rfl⟩ ⟨_,rfl,rfl,rfl,rfl,by kernel_rfl⟩ ⟨_,rfl,rfl,rfl,rfl,by kernel_rfl⟩ ⟨_,rfl,rfl,rfl,rfl,by kernel_rfl⟩ ⟨_,rfl,rfl,rfl,rfl,by kernel_rfl⟩ ⟨_,rfl,rfl,rfl,rfl,by kernel_rfl⟩ ⟨_,rfl,rfl,rfl,rfl,by kernel_rfl⟩ ⟨_,rfl,rfl,rfl,rfl,by kernel_rfl⟩ ⟨_,rfl,rfl,rfl,rfl,by kernel_rfl⟩ ⟨_,rfl,rfl,rfl,rfl,by kernel_rfl⟩ ⟨_,rfl,rfl,rfl,rfl,by kernel_rfl⟩ (Below.refl _ _).drew (run_field23 _ 0 (by omega)) (fun W hb=>run_load3 ((Q3.out.kept hb).cell 0 (v:=.int .i64 M.d) rfl)) (fun W hb hg=>by have kc:=cutEach_md pa n pc A C P m M.D (kL M p k X) W ((hP.below hb13).below hb) hC hD0 w1 (by omega);rw[hg,←F.eD] at kc;exact kc.mono fun e w' ⟨q1,q2,q3⟩=>⟨q1,q2,(by rw[hg];exact q3),bTn hb (by rw[hg];exact q3)⟩) (run_field23 _ 0 (by omega)) (fun W hb=>run_load3 ((Q3.out.kept hb).cell 0 (v:=.int .i64 M.d) rfl)) (mdrun_add3 _ _ _ iq (by omega) (by omega)) (run_field23 _ 0 (by omega)) (fun W hb=>run_load3 ((Q3.out.kept hb).cell 0 (v:=.int .i64 M.d) rfl)) (fun W hb hg=>by have kc:=cutEach_md pa n pc A C P f2 M.D (vL M k X) W ((hP.below hb13).below hb) hC hD0 w2 (by omega);rw[←F.eD] at kc;exact kc.mono fun e w' ⟨q1,q2,q3⟩=>⟨_,q1,hg,⟨⟨q2.own.1,wider (Nat.le_of_lt hg) q2.own.2⟩,q2.row,q2.apart⟩,q3,bTn hb q3⟩) rfl rfl rfl rfl (Nat.le_of_ble_eq_true rfl) ?_
   intro a W9 hs hd hkp hS9 hval
   obtain⟨e20,f20⟩:=hval 13 20 (by decide) rfl
   obtain⟨b2,e21,z21,f21⟩:=hval 14 21 (by decide) rfl
   have ep:=fPu [76,77,78,79,80,81,82,83,84,85,86,87,88,20,21] hs hd (fun s h=>hkp s (fun i hi e=>h (by
    rcases (show i=0∨i=1∨i=2∨i=3∨i=4∨i=5∨i=6∨i=7∨i=8∨i=9∨i=10∨i=11∨i=12∨i=13∨i=14 by omega) with rfl|rfl|rfl|rfl|rfl|rfl|rfl|rfl|rfl|rfl|rfl|rfl|rfl|rfl|rfl<;>(simp only[scD,Option.some.injEq] at e;subst e;simp))))
   simp only[List.foldl] at ep
   rw[e20] at ep
   rw[e21] at ep
   have H9:=hdn hS9
   clear hs hd hkp hval hS9 e20 e21
   generalize a.tmps.getD 76 undef=g76,a.tmps.getD 77 undef=g77,a.tmps.getD 78 undef=g78,a.tmps.getD 79 undef=g79,a.tmps.getD 80 undef=g80,a.tmps.getD 81 undef=g81,a.tmps.getD 82 undef=g82,a.tmps.getD 83 undef=g83,a.tmps.getD 84 undef=g84,a.tmps.getD 85 undef=g85,a.tmps.getD 86 undef=g86,a.tmps.getD 87 undef=g87,a.tmps.getD 88 undef=g88 at ep
   simp only[Act.put,List.setIfInBounds_toArray,List.set_cons_succ,List.set_cons_zero] at ep
   subst ep
   go_wp2
   refine sa_region (w.heap.size+1+1) n W13.heap.size b2 M.D cq ck cv qa ka va M.h (cutA A m) (cutA A f2) (fun _=>M.D) (partL P n m M.D (kL M p k X)) (partL P n f2 M.D (vL M k X)) (oL M p P n k X) W13 (by kernel_rfl) rfl ⟨_,rfl,rfl,rfl,rfl,by kernel_rfl⟩ ⟨_,rfl,rfl,rfl,rfl,by kernel_rfl⟩ ⟨_,rfl,rfl,rfl,rfl,by kernel_rfl⟩ ⟨_,rfl,rfl,rfl,rfl,by kernel_rfl⟩ ⟨_,rfl,rfl,rfl,rfl,by kernel_rfl⟩ ⟨_,rfl,rfl,rfl,rfl,by kernel_rfl⟩ ⟨_,rfl,rfl,rfl,rfl,by kernel_rfl⟩ ⟨_,rfl,rfl,rfl,rfl,by kernel_rfl⟩ ⟨_,rfl,rfl,rfl,rfl,by kernel_rfl⟩ ⟨_,rfl,rfl,rfl,rfl,by kernel_rfl⟩ ⟨_,rfl,rfl,rfl,rfl,by kernel_rfl⟩ ⟨_,rfl,rfl,rfl,rfl,by kernel_rfl⟩ ⟨_,rfl,rfl,rfl,rfl,by kernel_rfl⟩ ⟨_,rfl,rfl,rfl,rfl,by kernel_rfl⟩ ⟨_,rfl,rfl,rfl,rfl,by kernel_rfl⟩ ⟨_,rfl,rfl,rfl,rfl,by kernel_rfl⟩ rfl rfl rfl rfl rfl rfl rfl (by omega) (by omega) fk fv hD0 (by rw[partL_last];exact rk) (by rw[partL_last];exact rv) lo1 lo2 (fun o h=>by obtain rfl:=Option.some.inj h;rfl) (fun o h=>by obtain rfl:=Option.some.inj h;rfl) ⟨H9.out.drew,(f20.own.lt _ rfl).2,(f21.own.lt _ rfl).2,fun _=>f20.drew,fun _=>f21.drew⟩ (run_field23 _ 1 (by omega)) (fun W hb=>run_load3 ((Q3.out.kept hb).cell 1 (v:=.int .i64 M.h) rfl)) ?_ (Nat.le_of_ble_eq_true rfl) ?_
   ·intro W u1 k1 u2 k2 hb g1 g2
    exact (k5 W u1 k1 _ _ u2 k2 _ _ qa cq g1 (cap1 ck lk) g2 (cap1 cv lv) (rq.below hb) lq).mono fun e w' ⟨⟨a,c,q1,q2,q3,q4⟩,q5⟩=>⟨a,c,q1,q2,q3,q4,q5⟩
   intro a W15 oa oc hs hd hkp e22 f22 z22 fr22 hB15
   have ep:=fPu [89,90,91,92,93,94,95,96,97,98,99,100,101,102,103,22] hs hd (fun s h=>hkp s (fun j hj e=>h (by
    rcases (show j=0∨j=1∨j=2∨j=3∨j=4∨j=5∨j=6∨j=7∨j=8∨j=9∨j=10∨j=11∨j=12∨j=13∨j=14∨j=15 by omega) with rfl|rfl|rfl|rfl|rfl|rfl|rfl|rfl|rfl|rfl|rfl|rfl|rfl|rfl|rfl|rfl<;>(simp only[saD,Option.some.injEq] at e;subst e;simp))))
   simp only[List.foldl] at ep
   rw[e22] at ep
   clear hs hd hkp e22 f20 f21 z21
   generalize a.tmps.getD 89 undef=h89 at ep
   generalize a.tmps.getD 90 undef=h90 at ep
   generalize a.tmps.getD 91 undef=h91 at ep
   generalize a.tmps.getD 92 undef=h92 at ep
   generalize a.tmps.getD 93 undef=h93 at ep
   generalize a.tmps.getD 94 undef=h94 at ep
   generalize a.tmps.getD 95 undef=h95 at ep
   generalize a.tmps.getD 96 undef=h96 at ep
   generalize a.tmps.getD 97 undef=h97 at ep
   generalize a.tmps.getD 98 undef=h98 at ep
   generalize a.tmps.getD 99 undef=h99 at ep
   generalize a.tmps.getD 100 undef=h100 at ep
   generalize a.tmps.getD 101 undef=h101 at ep
   generalize a.tmps.getD 102 undef=h102 at ep
   generalize a.tmps.getD 103 undef=h103 at ep
   simp only[Act.put,List.setIfInBounds_toArray,List.set_cons_succ,List.set_cons_zero] at ep
   subst ep
   have hb15:Below w.heap.size w W15:=bTn hb13 hB15
   have Q1':=hdn (Q1.out.kept hB15)
   have Q2':=hdn (Q2.out.kept hB15)
   have Q3':=hdn (Q3.out.kept hB15)
   have rx15:=rx13.below hB15
   have rk15:=rk.below hB15
   have rv15:=rv.below hB15
   have ho15:=oBe HO13.out hB15
   obtain⟨ya,rfl⟩:=rk15.some_ hD0
   obtain⟨yv,rfl⟩:=rv15.some_ hD0
   have nv:yv.block≠g:=by have:=fv13 yv rfl;omega
   have no_:∀ y,oa=some y→y.block≠g:=fun y hy=>by have:=fr22 y hy;omega
   have hlk:=rk15.len
   have hlv:=rv15.len
   clear Q1 Q2 Q3 rx13 rk rv rq HO13 hB15 H9 fv13 fr22 lo1 lo2 k5 cap1 ef2 iq fk fv w1 w2
   go_wp2_with (first
    | (at_builtin;refine wpList_append_fits _ rfl (.tmp 104) (.tmp 105) 70 rfl w.heap.size 2 i0 1 Tryz.underlying70 hi2 hz1 g m wd _ rfl ho15 ya M.D ck ((kL M p k X).map (Value.int .i64)) rfl (by rw[List.length_map,hlk,Nat.mul_one]) (map_cells rk15) map_one (by omega) ?_;intro W16 ho16 hg16;have hb16:=below_append hb15 ho15 hg16;have Q1:=hdn (Q1'.out.grown hg16 (by omega));have Q2:=hdn (Q2'.out.grown hg16 (by omega));have Q3:=hdn (Q3'.out.grown hg16 (by omega));have rx16:=rx15.grown hg16 (fun _ y hy z hz=>by obtain rfl:=Option.some.inj hz;exact fx y hy);have rv16:=rv15.grown hg16 (fun _ y hy z hz=>by obtain rfl:=Option.some.inj hz;obtain rfl:=Option.some.inj hy;exact nv);have ro16:=f22.grown hg16 (fun _ y hy z hz=>by obtain rfl:=Option.some.inj hz;exact no_ y hy);clear Q1' Q2' Q3' rx15 rv15 rk15 f22 ho15 hg16 hb15)
    | (at_builtin;refine wpList_append_fits _ rfl (.tmp 106) (.tmp 107) 70 rfl w.heap.size 2 i0 1 Tryz.underlying70 hi2 hz1 g (m+M.D) wd _ rfl ho16 yv M.D cv ((vL M k X).map (Value.int .i64)) rfl (by rw[List.length_map,hlv,Nat.mul_one]) (map_cells rv16) map_one (by omega) ?_;intro W17 ho17 hg17;have hb17:=below_append hb16 ho16 hg17;have Q1':=hdn (Q1.out.grown hg17 (by omega));have Q2':=hdn (Q2.out.grown hg17 (by omega));have Q3':=hdn (Q3.out.grown hg17 (by omega));have rx17:=rx16.grown hg17 (fun _ y hy z hz=>by obtain rfl:=Option.some.inj hz;exact fx y hy);have ro17:=ro16.grown hg17 (fun _ y hy z hz=>by obtain rfl:=Option.some.inj hz;exact no_ y hy);have gl17:=(ho17.lt g rfl).2;obtain⟨c0,c1,c2,c3,c4,c5,c6,c7,c8,c9,c10,c11⟩:=Q1'.out.c12;have HO17:=hdn ho17;clear Q1 Q2 Q3 rx16 rv16 ro16 ho16 hg17 hb16 ho17)
    | (go_at_call 147;refine (kw _ hb17 k hlt _ _ _ _ _ _ rx17 ro17).mono ?_;rintro e W18 ⟨⟨a18,c18,rfl,r18,f18⟩,h18⟩;have hb18:=bTn hb17 h18;have Q1:=hdn (Q1'.out.kept h18);have Q2:=hdn (Q2'.out.kept h18);have Q3:=hdn (Q3'.out.kept h18);have ho18:=oBe HO17.out h18;have f18':∀ y,a18=some y→y.block≠g:=fun y hy=>(by have:=f18 y hy;omega);have R:Hid (Below w.heap.size w W18∧W18.ownsRow w.heap.size 2 1 (.slice (some ⟨g,0,none⟩) (m+M.D+M.D) wd) (m+M.D+M.D) ((S0++(kL M p k X++vL M k X)).map (Value.int .i64))∧Reads .i64 W18 a18 M.D (wkL M k X (oL M p P n k X))∧(∀ y,a18=some y→y.block≠g)):=⟨hb18,by rw[List.map_append,List.map_append,←List.append_assoc];exact ho18,r18,f18'⟩;clear ho18 h18 f18 f18' r18 rx17 ro17 Q1' Q2' Q3' HO17 c0 c1 c2 c3 c4 c5 c6 c7 c8 c9 c10 c11 hb18 hb17 kw))
   go_roundw
   case rel=>exact⟨k+1,by omega,by go_num,R.out.1,Q1.out,Q2.out,Q3.out,_,_,_,Hs.out.2.2.symm,rfl,by rw[Hs.out.1];exact R.out.2.1,rfl,by rw[Hs.out.2.1];exact R.out.2.2.1,R.out.2.2.2⟩
   case measure=>simp[intOf];omega
  ·have e:k=M.m.ln:=by omega
   subst e
   have c10:=qm.cell 10 (v:=.slice N.a N.n N.c) rfl
   have ewm:m=wd:=by rw[em,eWd]
   clear em
   subst ewm
   have lr:=stR_length F p P n tok M.m.ln (Nat.le_refl _)
   rw[eWd] at lr
   have gcap:=(ho.lt g rfl)
   have rr:=oRa (zs:=stR M p P n tok M.m.ln) ho lr (fun z hz=>(in_stR M p P n tok M.m.ln z hz).wf) (fun j hj=>map_get _ j (by rw[lr];exact hj))
   have rx':=(show Hid _ from rx)
   clear ho qm qa_ qc eWd
   go_wp2_with (first
    | (go_at_call 148;refine (kn _ hbr _ _ _ rx).mono ?_;rintro e W20 ⟨⟨a20,c20,rfl,r20,f20⟩,h20⟩;clear kn;have fo:∀ x,a20=some x→w.heap.size≤x.block:=fun x hx=>Nat.le_trans hbr.size (f20 x hx);have rr20:=rr.below h20;have hb20:=bTn hbr h20;clear h20 rr rx rx')
    | (go_at_call 145;refine (mdmust_yes _ _ _ _).mono ?_;rintro e w' ⟨rfl,hq⟩;obtain rfl:=hq.symm;clear hq))
   refine bodyPost_ret (v:=.tuple #[.slice (some ⟨g,0,none⟩) m m,.slice a20 M.D c20]) ?_ rfl ⟨⟨_,_,_,_,rfl,rr20,Nat.le_refl _,r20,fun x hx=>Nat.le_trans gcap.1 (Nat.le_of_eq (congrArg Addr.block (Option.some.inj hx))),fo⟩,hb20⟩
   simp[results,Tryz.results110,go_sem]
end Go.Proofs.YtbkjhfmehemgpaaGreat
