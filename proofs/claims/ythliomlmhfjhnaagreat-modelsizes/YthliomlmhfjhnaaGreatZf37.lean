/- Texts put together. -/
import Derived.Test.YthliomlmhfjhnaaGreatRows
import Derived.Test.YthliomlmhfjhnaaGreatZf27
import Derived.Test.YthliomlmhfjhnaaGreatZf23
import Derived.Test.YthliomlmhfjhnaaGreatZf28
import Derived.Test.YthliomlmhfjhnaaGreatZf29
namespace Go.Proofs.YthliomlmhfjhnaaGreat
set_option maxRecDepth 20000
set_option maxHeartbeats 16000000
open Go.ChangeShapes Go.WideShapes Go.ChangeAt Go.RowKit
set_option linter.unusedVariables false
set_option linter.unusedSimpArgs false
section
theorem looks_no (M:Md)(E L N O:SL)(Y U D:Nat→Nat→SL)(La:SL)(Ya:Nat→Nat→SL)(x0:Addr)(F:MdFit M)(hr0:M.r=0)(i:Nat)(hi:i<M.m.ln)(p:Int)(hp:0≤p∧p≤1000)(w:World)(hM:ModAt w E L N O Y U D M.m)(hx0:L.a=some x0)(ax:Option Addr)(cx:Nat)(x:List Int)(hx:Reads .i64 w ax M.D x) :
  Calls Tryz.prog 60 #[.agg #[.int .i64 M.d,.int .i64 M.h,.int .i64 M.l,.int .i64 M.v,.int .i64 M.u,.int .i64 M.x,.int .i64 M.t,.int .i64 M.n,.slice E.a E.n E.c,.slice (some x0) M.m.ln L.c,.slice N.a N.n N.c,.slice O.a O.n O.c],.agg #[.int .i64 M.r,.int .i64 M.s,.slice La.a La.n La.c],.int .i64 i,.int .i64 p,.slice ax M.D cx] w fun e w'=>(∃ q cq k ck v cv,e=.returned (.tuple #[.slice q M.D cq,.slice k M.D ck,.slice v M.D cv])∧(Reads .i64 w' q M.D (qL M p i x)∧M.D≤cq)∧(Reads .i64 w' k M.D (kL M p i x)∧M.D≤ck)∧(Reads .i64 w' v M.D (vL M i x)∧M.D≤cv∧∀ x,v=some x→w.heap.size≤x.block))∧Below w.heap.size w w':=by
 have hb1:=bNw (bNw (Below.refl w.heap.size w) (.cells #[.int .i64 M.d,.int .i64 M.h,.int .i64 M.l,.int .i64 M.v,.int .i64 M.u,.int .i64 M.x,.int .i64 M.t,.int .i64 M.n,.slice E.a E.n E.c,.slice (some x0) M.m.ln L.c,.slice N.a N.n N.c,.slice O.a O.n O.c] 27)) (.cells #[.int .i64 M.r,.int .i64 M.s,.slice La.a La.n La.c] 30)
 have q1:Blk 27 ((w.alloc (.cells #[.int .i64 M.d,.int .i64 M.h,.int .i64 M.l,.int .i64 M.v,.int .i64 M.u,.int .i64 M.x,.int .i64 M.t,.int .i64 M.n,.slice E.a E.n E.c,.slice (some x0) M.m.ln L.c,.slice N.a N.n N.c,.slice O.a O.n O.c] 27)).alloc (.cells #[.int .i64 M.r,.int .i64 M.s,.slice La.a La.n La.c] 30)) w.heap.size #[.int .i64 M.d,.int .i64 M.h,.int .i64 M.l,.int .i64 M.v,.int .i64 M.u,.int .i64 M.x,.int .i64 M.t,.int .i64 M.n,.slice E.a E.n E.c,.slice (some x0) M.m.ln L.c,.slice N.a N.n N.c,.slice O.a O.n O.c]:=(Blk.new 27 w _).kept (bNw (Below.refl _ _) _)
 have q2:Blk 30 ((w.alloc (.cells #[.int .i64 M.d,.int .i64 M.h,.int .i64 M.l,.int .i64 M.v,.int .i64 M.u,.int .i64 M.x,.int .i64 M.t,.int .i64 M.n,.slice E.a E.n E.c,.slice (some x0) M.m.ln L.c,.slice N.a N.n N.c,.slice O.a O.n O.c] 27)).alloc (.cells #[.int .i64 M.r,.int .i64 M.s,.slice La.a La.n La.c] 30)) (w.heap.size+1) #[.int .i64 M.r,.int .i64 M.s,.slice La.a La.n La.c]:=Blk.new_at 30 (w.alloc _) _ _ (by simp)
 have kr:=fun (W:World) (hb:Below w.heap.size w W) a c xs=>md_rms F (Y i 0) _ (F.f0 i hi) W (((hM.lay i hi).f 0 (by omega)).below hb) a c xs
 have kq:=fun (W:World) (hb:Below w.heap.size w W) a c xs=>md_mat F hi 1 (by omega) (by omega) (Y i 1) W (((hM.lay i hi).f 1 (by omega)).below hb) a c xs
 have kk:=fun (W:World) (hb:Below w.heap.size w W) a c xs=>md_mat F hi 2 (by omega) (by omega) (Y i 2) W (((hM.lay i hi).f 2 (by omega)).below hb) a c xs
 have kv:=fun (W:World) (hb:Below w.heap.size w W) a c xs=>md_mat F hi 3 (by omega) (by omega) (Y i 3) W (((hM.lay i hi).f 3 (by omega)).below hb) a c xs
 have kg:=grafted_no M.r M.s La hr0
 have hnot:∀ (x:Bool) (w:World),(Op.unary .not (.bool x)).run Tryz.prog w=.ok (.bool (!x)) w:=fun _ _=>rfl
 have eq:qL M p i x=headsL (matL (M.m.f i 1) (nrmL M i x)) p (M.D/M.H) M.H:=by unfold qL graftL;rw[if_pos hr0]
 have ev:vL M i x=matL (M.m.f i 3) (nrmL M i x):=by unfold vL graftL;rw[if_pos hr0]
 unfold nrmL at eq ev
 rw[eq,ev]
 unfold kL nrmL
 clear eq ev hr0
 go_enter Tryz.func60,Tryz.ntmps60
 go_wp2
 refine lk_region M E L N O Y w.heap.size i x0 U D (hM.below hb1) hx0 hi q1 (by kernel_rfl) rfl ⟨_,rfl,rfl,rfl,rfl,by kernel_rfl⟩ ⟨_,rfl,rfl,rfl,rfl,by kernel_rfl⟩ ⟨_,rfl,rfl,rfl,rfl,by kernel_rfl⟩ ⟨_,rfl,rfl,rfl,rfl,by kernel_rfl⟩ ⟨_,rfl,rfl,rfl,rfl,by kernel_rfl⟩ ⟨_,rfl,rfl,rfl,rfl,by kernel_rfl⟩ ⟨_,rfl,rfl,rfl,rfl,by kernel_rfl⟩ ⟨_,rfl,rfl,rfl,rfl,by kernel_rfl⟩ ⟨_,rfl,rfl,rfl,rfl,by kernel_rfl⟩ ⟨_,rfl,rfl,rfl,rfl,by kernel_rfl⟩ ⟨_,rfl,rfl,rfl,rfl,by kernel_rfl⟩ rfl rfl (Nat.le_of_ble_eq_true rfl) ?_
 intro a W2 cb lb hs hd hkp e13 e14 hb2 qc ql
 have ep:=fPu [17,18,19,20,21,22,23,13,14] hs hd (fun s h=>hkp s (fun j hj e=>h (by
  rcases (show j=0∨j=1∨j=2∨j=3∨j=4∨j=5∨j=6∨j=7∨j=8∨j=9∨j=10 by omega) with rfl|rfl|rfl|rfl|rfl|rfl|rfl|rfl|rfl|rfl|rfl<;>first|(simp only[lkD,Option.some.injEq] at e;subst e;simp;done)|(simp[lkD] at e))))
 simp only[List.foldl] at ep
 rw[e13,e14] at ep
 clear hs hd hkp e13 e14
 generalize a.tmps.getD 17 undef=g17,a.tmps.getD 18 undef=g18,a.tmps.getD 19 undef=g19,a.tmps.getD 20 undef=g20,a.tmps.getD 21 undef=g21,a.tmps.getD 22 undef=g22,a.tmps.getD 23 undef=g23 at ep
 simp only[Act.put,List.setIfInBounds_toArray,List.set_cons_succ,List.set_cons_zero] at ep
 subst ep
 have hb:=bTn hb1 hb2
 have hx2:=hx.below hb
 have QC:=hdn qc
 have QL:=hdn ql
 have QA:=hdn (q2.kept hb2)
 have yy0:=ql.cell 0 (v:=.slice (Y i 0).a (Y i 0).n (Y i 0).c) rfl
 clear qc ql hb1 hb2 q1 q2 hx hM
 go_wp2_with (first
  | (go_at_call 64;refine (kr _ hb _ _ _ hx2).mono ?_;rintro e W3 ⟨⟨a3,c3,rfl,r3,-⟩,h3⟩;clear kr;have hb3:=bTn hb h3;have QC':=hdn (QC.out.kept h3);clear QC;have QC:=QC';clear QC';have QL':=hdn (QL.out.kept h3);clear QL;have QL:=QL';clear QL';have QA':=hdn (QA.out.kept h3);clear QA;have QA:=QA';clear QA';have y1:=QL.out.cell 1 (v:=.slice (Y i 1).a (Y i 1).n (Y i 1).c) rfl;have z3:=QC.out.cell 0 (v:=.int .i64 M.d) rfl;clear h3 hx2)
  | (go_at_call 48;refine (mdmust_yes _ _ _ _).mono ?_;rintro e w' ⟨rfl,hq⟩;obtain rfl:=hq.symm;clear hq)
  | (go_at_call 49;refine (kq _ hb3 _ _ _ r3).mono ?_;rintro e W4 ⟨⟨a4,c4,rfl,r4,l4,-⟩,h4⟩;clear kq;have hb4:=bTn hb3 h4;have QC':=hdn (QC.out.kept h4);clear QC;have QC:=QC';clear QC';have QL':=hdn (QL.out.kept h4);clear QL;have QL:=QL';clear QL';have QA':=hdn (QA.out.kept h4);clear QA;have QA:=QA';clear QA';replace r3:=r3.below h4;have y2:=QL.out.cell 2 (v:=.slice (Y i 2).a (Y i 2).n (Y i 2).c) rfl;have z4:=QC.out.cell 0 (v:=.int .i64 M.d) rfl;clear h4 y1 z3)
  | (go_at_call 49;refine (kk _ hb4 _ _ _ r3).mono ?_;rintro e W5 ⟨⟨a5,c5,rfl,r5,l5,-⟩,h5⟩;clear kk;have hb5:=bTn hb4 h5;have QC':=hdn (QC.out.kept h5);clear QC;have QC:=QC';clear QC';have QL':=hdn (QL.out.kept h5);clear QL;have QL:=QL';clear QL';have QA':=hdn (QA.out.kept h5);clear QA;have QA:=QA';clear QA';replace r3:=r3.below h5;replace r4:=r4.below h5;have y3:=QL.out.cell 3 (v:=.slice (Y i 3).a (Y i 3).n (Y i 3).c) rfl;have z5:=QC.out.cell 0 (v:=.int .i64 M.d) rfl;clear h5 y2 z4)
  | (go_at_call 49;refine (kv _ hb5 _ _ _ r3).mono ?_;rintro e W6 ⟨⟨a6,c6,rfl,r6,l6,f6⟩,h6⟩;clear kv;have FV:Hid (∀ x,a6=some x→w.heap.size≤x.block):=fun x hx=>Nat.le_trans hb5.size (f6 x hx);clear f6;have hb6:=bTn hb5 h6;have QC':=hdn (QC.out.kept h6);clear QC;have QC:=QC';clear QC';have QL':=hdn (QL.out.kept h6);clear QL;have QL:=QL';clear QL';have QA':=hdn (QA.out.kept h6);clear QA;have QA:=QA';clear QA';replace r3:=r3.below h6;replace r4:=r4.below h6;replace r5:=r5.below h6;obtain⟨s0,s1,s2⟩:=QA.out.c3;clear h6 y3 z5)
  | (go_at_call 53;refine (kg _).mono ?_;rintro e W7 ⟨rfl,h7⟩;clear kg;have hb7:=bTn hb6 h7;have QC':=hdn (QC.out.kept h7);clear QC;have QC:=QC';clear QC';have QL':=hdn (QL.out.kept h7);clear QL;have QL:=QL';clear QL';have QA':=hdn (QA.out.kept h7);clear QA;have QA:=QA';clear QA';replace r3:=r3.below h7;replace r4:=r4.below h7;replace r5:=r5.below h7;replace r6:=r6.below h7;clear h7 s0 s1 s2))
 refine lh_region cb M.D c4 c5 c6 a4 a5 a6 M.h p (headsL (matL (M.m.f i 1) (rmsZ x (M.m.f i 0) M.D)) p (M.D/M.H) M.H) (headsL (matL (M.m.f i 2) (rmsZ x (M.m.f i 0) M.D)) p (M.D/M.H) M.H) (fun W=>Below W7.heap.size W7 W) (by kernel_rfl) rfl ⟨_,rfl,rfl,rfl,rfl,by kernel_rfl⟩ ⟨_,rfl,rfl,rfl,rfl,by kernel_rfl⟩ ⟨_,rfl,rfl,rfl,rfl,by kernel_rfl⟩ ⟨_,rfl,rfl,rfl,rfl,by kernel_rfl⟩ ⟨_,rfl,rfl,rfl,rfl,by kernel_rfl⟩ ⟨_,rfl,rfl,rfl,rfl,by kernel_rfl⟩ ⟨_,rfl,rfl,rfl,rfl,by kernel_rfl⟩ ⟨_,rfl,rfl,rfl,rfl,by kernel_rfl⟩ ⟨_,rfl,rfl,rfl,rfl,by kernel_rfl⟩ ⟨_,rfl,rfl,rfl,rfl,by kernel_rfl⟩ ⟨_,rfl,rfl,rfl,rfl,by kernel_rfl⟩ ⟨_,rfl,rfl,rfl,rfl,by kernel_rfl⟩ ⟨_,rfl,rfl,rfl,rfl,by kernel_rfl⟩ ⟨_,rfl,rfl,rfl,rfl,by kernel_rfl⟩ ⟨_,rfl,rfl,rfl,rfl,by kernel_rfl⟩ ⟨_,rfl,rfl,rfl,rfl,by kernel_rfl⟩ ⟨_,rfl,rfl,rfl,rfl,by kernel_rfl⟩ ⟨_,rfl,rfl,rfl,rfl,by kernel_rfl⟩ ⟨_,rfl,rfl,rfl,rfl,by kernel_rfl⟩ ⟨_,rfl,rfl,rfl,rfl,by kernel_rfl⟩ (Below.refl _ _).drew (run_field23 _ 1 (by omega)) (fun W hb=>run_load3 ((QC.out.kept hb).cell 1 (v:=.int .i64 M.h) rfl)) (fun W hb=>(md_heads F p hp W _ _ _ (r4.below hb) l4).mono fun e w' ⟨⟨a,c,q1,q2,q3⟩,q4⟩=>⟨a,c,q1,q2,q3,q4,bTn hb q4⟩) trivial (run_field23 _ 1 (by omega)) (fun W hb=>run_load3 ((QC.out.kept hb).cell 1 (v:=.int .i64 M.h) rfl)) (fun W hb=>(md_heads F p hp W _ _ _ (r5.below hb) l5).mono fun e w' ⟨⟨a,c,q1,q2,q3⟩,q4⟩=>⟨a,c,q1,q2,q3,q4,bTn hb q4⟩) trivial rfl rfl rfl rfl rfl (Nat.le_of_ble_eq_true rfl) ?_
 intro a W9 hs hd hkp hS9 hval
 have e12:a.tmps.getD 12 undef=.slice a6 M.D c6:=hval 19 12 (by decide) rfl
 obtain⟨q9,qc9,e10,f10,z10⟩:=hval 17 10 (by decide) rfl
 obtain⟨k9,kc9,e11,f11,z11⟩:=hval 18 11 (by decide) rfl
 have ep:=fPu [101,102,103,104,105,106,107,108,109,110,111,112,113,114,115,116,117,10,11,12] hs hd (fun s h=>hkp s (fun i hi e=>h (by
  rcases (show i=0∨i=1∨i=2∨i=3∨i=4∨i=5∨i=6∨i=7∨i=8∨i=9∨i=10∨i=11∨i=12∨i=13∨i=14∨i=15∨i=16∨i=17∨i=18∨i=19 by omega) with rfl|rfl|rfl|rfl|rfl|rfl|rfl|rfl|rfl|rfl|rfl|rfl|rfl|rfl|rfl|rfl|rfl|rfl|rfl|rfl<;>(simp only[lhD,Option.some.injEq] at e;subst e;simp))))
 simp only[List.foldl] at ep
 rw[e12] at ep
 rw[e10] at ep
 rw[e11] at ep
 have H9:=hdn hS9
 clear hs hd hkp hval hS9 e12 e10 e11
 generalize a.tmps.getD 101 undef=g101,a.tmps.getD 102 undef=g102,a.tmps.getD 103 undef=g103,a.tmps.getD 104 undef=g104,a.tmps.getD 105 undef=g105,a.tmps.getD 106 undef=g106,a.tmps.getD 107 undef=g107,a.tmps.getD 108 undef=g108,a.tmps.getD 109 undef=g109,a.tmps.getD 110 undef=g110,a.tmps.getD 111 undef=g111,a.tmps.getD 112 undef=g112,a.tmps.getD 113 undef=g113,a.tmps.getD 114 undef=g114,a.tmps.getD 115 undef=g115,a.tmps.getD 116 undef=g116,a.tmps.getD 117 undef=g117 at ep
 simp only[Act.put,List.setIfInBounds_toArray,List.set_cons_succ,List.set_cons_zero] at ep
 subst ep
 have fv:=r6.below H9.out
 have hbE:=bTn hb7 H9.out
 go_wp2
 refine bodyPost_ret (v:=.tuple #[.slice q9 M.D qc9,.slice k9 M.D kc9,.slice a6 M.D c6]) ?_ rfl ⟨⟨q9,qc9,k9,kc9,a6,c6,rfl,⟨f10,z10⟩,⟨f11,z11⟩,fv,l6,FV.out⟩,hbE⟩
 simp[results,Tryz.results60,go_sem]
theorem looks_yes (M:Md)(E L N O:SL)(Y U D:Nat→Nat→SL)(La:SL)(Ya:Nat→Nat→SL)(x0 y0:Addr)(F:MdFit M)(hr0:M.r≠0)(R:Nat)(A:AdFit M R)(i:Nat)(hi:i<M.m.ln)(p:Int)(hp:0≤p∧p≤1000)(w:World)(hM:ModAt w E L N O Y U D M.m)(hA:AdAt w La Ya M.a)(hx0:L.a=some x0)(hy0:La.a=some y0)(ax:Option Addr)(cx:Nat)(x:List Int)(hx:Reads .i64 w ax M.D x) :
  Calls Tryz.prog 60 #[.agg #[.int .i64 M.d,.int .i64 M.h,.int .i64 M.l,.int .i64 M.v,.int .i64 M.u,.int .i64 M.x,.int .i64 M.t,.int .i64 M.n,.slice E.a E.n E.c,.slice (some x0) M.m.ln L.c,.slice N.a N.n N.c,.slice O.a O.n O.c],.agg #[.int .i64 M.r,.int .i64 M.s,.slice (some y0) M.m.ln La.c],.int .i64 i,.int .i64 p,.slice ax M.D cx] w fun e w'=>(∃ q cq k ck v cv,e=.returned (.tuple #[.slice q M.D cq,.slice k M.D ck,.slice v M.D cv])∧(Reads .i64 w' q M.D (qL M p i x)∧M.D≤cq)∧(Reads .i64 w' k M.D (kL M p i x)∧M.D≤ck)∧(Reads .i64 w' v M.D (vL M i x)∧M.D≤cv∧∀ x,v=some x→w.heap.size≤x.block))∧Below w.heap.size w w':=by
 have hia:i<M.a.ln:=by rw[A.ln];exact hi
 have hb1:=bNw (bNw (Below.refl w.heap.size w) (.cells #[.int .i64 M.d,.int .i64 M.h,.int .i64 M.l,.int .i64 M.v,.int .i64 M.u,.int .i64 M.x,.int .i64 M.t,.int .i64 M.n,.slice E.a E.n E.c,.slice (some x0) M.m.ln L.c,.slice N.a N.n N.c,.slice O.a O.n O.c] 27)) (.cells #[.int .i64 M.r,.int .i64 M.s,.slice (some y0) M.m.ln La.c] 30)
 have q1:Blk 27 ((w.alloc (.cells #[.int .i64 M.d,.int .i64 M.h,.int .i64 M.l,.int .i64 M.v,.int .i64 M.u,.int .i64 M.x,.int .i64 M.t,.int .i64 M.n,.slice E.a E.n E.c,.slice (some x0) M.m.ln L.c,.slice N.a N.n N.c,.slice O.a O.n O.c] 27)).alloc (.cells #[.int .i64 M.r,.int .i64 M.s,.slice (some y0) M.m.ln La.c] 30)) w.heap.size #[.int .i64 M.d,.int .i64 M.h,.int .i64 M.l,.int .i64 M.v,.int .i64 M.u,.int .i64 M.x,.int .i64 M.t,.int .i64 M.n,.slice E.a E.n E.c,.slice (some x0) M.m.ln L.c,.slice N.a N.n N.c,.slice O.a O.n O.c]:=(Blk.new 27 w _).kept (bNw (Below.refl _ _) _)
 have q2:Blk 30 ((w.alloc (.cells #[.int .i64 M.d,.int .i64 M.h,.int .i64 M.l,.int .i64 M.v,.int .i64 M.u,.int .i64 M.x,.int .i64 M.t,.int .i64 M.n,.slice E.a E.n E.c,.slice (some x0) M.m.ln L.c,.slice N.a N.n N.c,.slice O.a O.n O.c] 27)).alloc (.cells #[.int .i64 M.r,.int .i64 M.s,.slice (some y0) M.m.ln La.c] 30)) (w.heap.size+1) #[.int .i64 M.r,.int .i64 M.s,.slice (some y0) M.m.ln La.c]:=Blk.new_at 30 (w.alloc _) _ _ (by simp)
 have kr:=fun (W:World) (hb:Below w.heap.size w W) a c xs=>md_rms F (Y i 0) _ (F.f0 i hi) W (((hM.lay i hi).f 0 (by omega)).below hb) a c xs
 have kq:=fun (W:World) (hb:Below w.heap.size w W) a c xs=>md_mat F hi 1 (by omega) (by omega) (Y i 1) W (((hM.lay i hi).f 1 (by omega)).below hb) a c xs
 have kk:=fun (W:World) (hb:Below w.heap.size w W) a c xs=>md_mat F hi 2 (by omega) (by omega) (Y i 2) W (((hM.lay i hi).f 2 (by omega)).below hb) a c xs
 have kv:=fun (W:World) (hb:Below w.heap.size w W) a c xs=>md_mat F hi 3 (by omega) (by omega) (Y i 3) W (((hM.lay i hi).f 3 (by omega)).below hb) a c xs
 have kg:∀ w,Calls Tryz.prog 53 #[.agg #[.int .i64 M.r,.int .i64 M.s,.slice (some y0) M.m.ln La.c]] w fun e w'=>e=.returned (.bool true)∧Below w.heap.size w w':=fun w=>grafted_yes M.r M.s ⟨some y0,M.m.ln,La.c⟩ hr0 w
 have cg:=fun (W:World) (hb:Below w.heap.size w W) j hj=>(hA.below hb).cell y0 hy0 i hia j hj
 have ka:=fun (W:World) (hb:Below w.heap.size w W) a c xs=>md_apply F A hi 0 (by omega) (Ya i 0) (Ya i 1) W ((hA.lay i hia 0 (by omega)).below hb) ((hA.lay i hia 1 (by omega)).below hb) a c xs
 have kb:=fun (W:World) (hb:Below w.heap.size w W) a c xs=>md_apply F A hi 2 (by omega) (Ya i 2) (Ya i 3) W ((hA.lay i hia 2 (by omega)).below hb) ((hA.lay i hia 3 (by omega)).below hb) a c xs
 have k1:=fun (W:World) a0 c0 xs a1 c1 ys=>md_add F W a0 c0 xs a1 c1 ys
 have k2:=k1
 have hnot:∀ (x:Bool) (w:World),(Op.unary .not (.bool x)).run Tryz.prog w=.ok (.bool (!x)) w:=fun _ _=>rfl
 have eq:qL M p i x=headsL (plusL (matL (M.m.f i 1) (nrmL M i x)) (applR (M.a.f i 0) (M.a.f i (0+1)) M.r M.s (nrmL M i x))) p (M.D/M.H) M.H:=by unfold qL graftL;rw[if_neg hr0]
 have ev:vL M i x=plusL (matL (M.m.f i 3) (nrmL M i x)) (applR (M.a.f i 2) (M.a.f i (2+1)) M.r M.s (nrmL M i x)):=by unfold vL graftL;rw[if_neg hr0]
 unfold nrmL at eq ev
 rw[eq,ev]
 unfold kL nrmL
 have hlt:(i:Int)<(M.m.ln:Int):=by omega
 clear eq ev hr0 hA
 go_enter Tryz.func60,Tryz.ntmps60
 go_wp2
 refine lk_region M E L N O Y w.heap.size i x0 U D (hM.below hb1) hx0 hi q1 (by kernel_rfl) rfl ⟨_,rfl,rfl,rfl,rfl,by kernel_rfl⟩ ⟨_,rfl,rfl,rfl,rfl,by kernel_rfl⟩ ⟨_,rfl,rfl,rfl,rfl,by kernel_rfl⟩ ⟨_,rfl,rfl,rfl,rfl,by kernel_rfl⟩ ⟨_,rfl,rfl,rfl,rfl,by kernel_rfl⟩ ⟨_,rfl,rfl,rfl,rfl,by kernel_rfl⟩ ⟨_,rfl,rfl,rfl,rfl,by kernel_rfl⟩ ⟨_,rfl,rfl,rfl,rfl,by kernel_rfl⟩ ⟨_,rfl,rfl,rfl,rfl,by kernel_rfl⟩ ⟨_,rfl,rfl,rfl,rfl,by kernel_rfl⟩ ⟨_,rfl,rfl,rfl,rfl,by kernel_rfl⟩ rfl rfl (Nat.le_of_ble_eq_true rfl) ?_
 intro a W2 cb lb hs hd hkp e13 e14 hb2 qc ql
 have ep:=fPu [17,18,19,20,21,22,23,13,14] hs hd (fun s h=>hkp s (fun j hj e=>h (by
  rcases (show j=0∨j=1∨j=2∨j=3∨j=4∨j=5∨j=6∨j=7∨j=8∨j=9∨j=10 by omega) with rfl|rfl|rfl|rfl|rfl|rfl|rfl|rfl|rfl|rfl|rfl<;>first|(simp only[lkD,Option.some.injEq] at e;subst e;simp;done)|(simp[lkD] at e))))
 simp only[List.foldl] at ep
 rw[e13,e14] at ep
 clear hs hd hkp e13 e14
 generalize a.tmps.getD 17 undef=g17,a.tmps.getD 18 undef=g18,a.tmps.getD 19 undef=g19,a.tmps.getD 20 undef=g20,a.tmps.getD 21 undef=g21,a.tmps.getD 22 undef=g22,a.tmps.getD 23 undef=g23 at ep
 simp only[Act.put,List.setIfInBounds_toArray,List.set_cons_succ,List.set_cons_zero] at ep
 subst ep
 have hb:=bTn hb1 hb2
 have hx2:=hx.below hb
 have QC:=hdn qc
 have QL:=hdn ql
 have QA:=hdn (q2.kept hb2)
 have yy0:=ql.cell 0 (v:=.slice (Y i 0).a (Y i 0).n (Y i 0).c) rfl
 clear qc ql hb1 hb2 q1 q2 hx hM
 go_wp2_with (first
  | (go_at_call 64;refine (kr _ hb _ _ _ hx2).mono ?_;rintro e W3 ⟨⟨a3,c3,rfl,r3,-⟩,h3⟩;clear kr;have hb3:=bTn hb h3;have QC':=hdn (QC.out.kept h3);clear QC;have QC:=QC';clear QC';have QL':=hdn (QL.out.kept h3);clear QL;have QL:=QL';clear QL';have QA':=hdn (QA.out.kept h3);clear QA;have QA:=QA';clear QA';have y1:=QL.out.cell 1 (v:=.slice (Y i 1).a (Y i 1).n (Y i 1).c) rfl;have z3:=QC.out.cell 0 (v:=.int .i64 M.d) rfl;clear h3 hx2)
  | (go_at_call 48;refine (mdmust_yes _ _ _ _).mono ?_;rintro e w' ⟨rfl,hq⟩;obtain rfl:=hq.symm;clear hq)
  | (go_at_call 49;refine (kq _ hb3 _ _ _ r3).mono ?_;rintro e W4 ⟨⟨a4,c4,rfl,r4,l4,-⟩,h4⟩;clear kq;have hb4:=bTn hb3 h4;have QC':=hdn (QC.out.kept h4);clear QC;have QC:=QC';clear QC';have QL':=hdn (QL.out.kept h4);clear QL;have QL:=QL';clear QL';have QA':=hdn (QA.out.kept h4);clear QA;have QA:=QA';clear QA';replace r3:=r3.below h4;have y2:=QL.out.cell 2 (v:=.slice (Y i 2).a (Y i 2).n (Y i 2).c) rfl;have z4:=QC.out.cell 0 (v:=.int .i64 M.d) rfl;clear h4 y1 z3)
  | (go_at_call 49;refine (kk _ hb4 _ _ _ r3).mono ?_;rintro e W5 ⟨⟨a5,c5,rfl,r5,l5,-⟩,h5⟩;clear kk;have hb5:=bTn hb4 h5;have QC':=hdn (QC.out.kept h5);clear QC;have QC:=QC';clear QC';have QL':=hdn (QL.out.kept h5);clear QL;have QL:=QL';clear QL';have QA':=hdn (QA.out.kept h5);clear QA;have QA:=QA';clear QA';replace r3:=r3.below h5;replace r4:=r4.below h5;have y3:=QL.out.cell 3 (v:=.slice (Y i 3).a (Y i 3).n (Y i 3).c) rfl;have z5:=QC.out.cell 0 (v:=.int .i64 M.d) rfl;clear h5 y2 z4)
  | (go_at_call 49;refine (kv _ hb5 _ _ _ r3).mono ?_;rintro e W6 ⟨⟨a6,c6,rfl,r6,l6,f6⟩,h6⟩;clear kv;have FV:Hid (∀ x,a6=some x→w.heap.size≤x.block):=fun x hx=>Nat.le_trans hb5.size (f6 x hx);clear f6;have hb6:=bTn hb5 h6;have QC':=hdn (QC.out.kept h6);clear QC;have QC:=QC';clear QC';have QL':=hdn (QL.out.kept h6);clear QL;have QL:=QL';clear QL';have QA':=hdn (QA.out.kept h6);clear QA;have QA:=QA';clear QA';replace r3:=r3.below h6;replace r4:=r4.below h6;replace r5:=r5.below h6;obtain⟨s0,s1,s2⟩:=QA.out.c3;clear h6 y3 z5)
  | (go_at_call 53;refine (kg _).mono ?_;rintro e W7 ⟨rfl,h7⟩;clear kg;have hb7:=bTn hb6 h7;have QC':=hdn (QC.out.kept h7);clear QC;have QC:=QC';clear QC';have QL':=hdn (QL.out.kept h7);clear QL;have QL:=QL';clear QL';have QA':=hdn (QA.out.kept h7);clear QA;have QA:=QA';clear QA';replace r3:=r3.below h7;replace r4:=r4.below h7;replace r5:=r5.below h7;replace r6:=r6.below h7;have s2':=QA.out.cell 2 (v:=.slice (some y0) M.m.ln La.c) rfl;have d0:=cg _ hb7 0 (by omega);have d1:=cg _ hb7 1 (by omega);have d2:=cg _ hb7 2 (by omega);have d3:=cg _ hb7 3 (by omega);unfold SL.v at d0 d1 d2 d3;simp only[Addr.add_zero',Addr.add_succ'] at d0 d1 d2 d3;have n8:=bNw (Below.refl W7.heap.size W7) (.cells #[.slice (Ya i 0).a (Ya i 0).n (Ya i 0).c,.slice (Ya i 1).a (Ya i 1).n (Ya i 1).c,.slice (Ya i 2).a (Ya i 2).n (Ya i 2).c,.slice (Ya i 3).a (Ya i 3).n (Ya i 3).c] 61);have hb8:=bTn hb7 n8;have QG:=hdn (Blk.new 61 W7 #[.slice (Ya i 0).a (Ya i 0).n (Ya i 0).c,.slice (Ya i 1).a (Ya i 1).n (Ya i 1).c,.slice (Ya i 2).a (Ya i 2).n (Ya i 2).c,.slice (Ya i 3).a (Ya i 3).n (Ya i 3).c]);have QA8:=hdn (QA.out.kept n8);have QC8:=hdn (QC.out.kept n8);clear QA QC;have QA:=QA8;have QC:=QC8;clear QA8 QC8;replace r3:=r3.below n8;replace r4:=r4.below n8;replace r5:=r5.below n8;replace r6:=r6.below n8;have g0:=QG.out.cell 0 (v:=.slice (Ya i 0).a (Ya i 0).n (Ya i 0).c) rfl;have g1:=QG.out.cell 1 (v:=.slice (Ya i 1).a (Ya i 1).n (Ya i 1).c) rfl;have s0:=QA.out.cell 0 (v:=.int .i64 M.r) rfl;have s1:=QA.out.cell 1 (v:=.int .i64 M.s) rfl;clear h7 n8 cg)
  | (go_at_call 94;refine (ka _ hb8 _ _ _ r3).mono ?_;rintro e W9 ⟨⟨a9,c9,rfl,r9⟩,h9⟩;clear ka;have hb9:=bTn hb8 h9;have QC':=hdn (QC.out.kept h9);clear QC;have QC:=QC';clear QC';have QA':=hdn (QA.out.kept h9);clear QA;have QA:=QA';clear QA';have QG':=hdn (QG.out.kept h9);clear QG;have QG:=QG';clear QG';replace r3:=r3.below h9;replace r4:=r4.below h9;replace r5:=r5.below h9;replace r6:=r6.below h9;clear h9 g0 g1 s0 s1)
  | (go_at_call 93;refine (k1 _ _ _ _ _ _ _ r4 r9).mono ?_;rintro e W10 ⟨⟨a10,c10,rfl,r10,l10,-⟩,h10⟩;clear k1;have hb10:=bTn hb9 h10;have QC':=hdn (QC.out.kept h10);clear QC;have QC:=QC';clear QC';have QA':=hdn (QA.out.kept h10);clear QA;have QA:=QA';clear QA';have QG':=hdn (QG.out.kept h10);clear QG;have QG:=QG';clear QG';replace r3:=r3.below h10;replace r5:=r5.below h10;replace r6:=r6.below h10;have g2:=QG.out.cell 2 (v:=.slice (Ya i 2).a (Ya i 2).n (Ya i 2).c) rfl;have g3:=QG.out.cell 3 (v:=.slice (Ya i 3).a (Ya i 3).n (Ya i 3).c) rfl;have s0:=QA.out.cell 0 (v:=.int .i64 M.r) rfl;have s1:=QA.out.cell 1 (v:=.int .i64 M.s) rfl;clear h10 r4 r9)
  | (go_at_call 94;refine (kb _ hb10 _ _ _ r3).mono ?_;rintro e W11 ⟨⟨a11,c11,rfl,r11⟩,h11⟩;clear kb;have hb11:=bTn hb10 h11;have QC':=hdn (QC.out.kept h11);clear QC;have QC:=QC';clear QC';replace r5:=r5.below h11;replace r6:=r6.below h11;replace r10:=r10.below h11;clear h11 g2 g3 s0 s1 r3)
  | (go_at_call 93;refine (k2 _ _ _ _ _ _ _ r6 r11).mono ?_;rintro e W12 ⟨⟨a12,c12,rfl,r12,l12,f12⟩,h12⟩;clear k2;have FW:Hid (∀ x,a12=some x→w.heap.size≤x.block):=fun x hx=>Nat.le_trans hb11.size (f12 x hx);clear f12;have hb12:=bTn hb11 h12;have QC':=hdn (QC.out.kept h12);clear QC;have QC:=QC';clear QC';replace r5:=r5.below h12;replace r10:=r10.below h12;clear h12 r6 r11))
 refine lh_region cb M.D c10 c5 c12 a10 a5 a12 M.h p (headsL (plusL (matL (M.m.f i 1) (rmsZ x (M.m.f i 0) M.D)) (applR (M.a.f i 0) (M.a.f i (0+1)) M.r M.s (rmsZ x (M.m.f i 0) M.D))) p (M.D/M.H) M.H) (headsL (matL (M.m.f i 2) (rmsZ x (M.m.f i 0) M.D)) p (M.D/M.H) M.H) (fun W=>Below W12.heap.size W12 W) (by kernel_rfl) rfl ⟨_,rfl,rfl,rfl,rfl,by kernel_rfl⟩ ⟨_,rfl,rfl,rfl,rfl,by kernel_rfl⟩ ⟨_,rfl,rfl,rfl,rfl,by kernel_rfl⟩ ⟨_,rfl,rfl,rfl,rfl,by kernel_rfl⟩ ⟨_,rfl,rfl,rfl,rfl,by kernel_rfl⟩ ⟨_,rfl,rfl,rfl,rfl,by kernel_rfl⟩ ⟨_,rfl,rfl,rfl,rfl,by kernel_rfl⟩ ⟨_,rfl,rfl,rfl,rfl,by kernel_rfl⟩ ⟨_,rfl,rfl,rfl,rfl,by kernel_rfl⟩ ⟨_,rfl,rfl,rfl,rfl,by kernel_rfl⟩ ⟨_,rfl,rfl,rfl,rfl,by kernel_rfl⟩ ⟨_,rfl,rfl,rfl,rfl,by kernel_rfl⟩ ⟨_,rfl,rfl,rfl,rfl,by kernel_rfl⟩ ⟨_,rfl,rfl,rfl,rfl,by kernel_rfl⟩ ⟨_,rfl,rfl,rfl,rfl,by kernel_rfl⟩ ⟨_,rfl,rfl,rfl,rfl,by kernel_rfl⟩ ⟨_,rfl,rfl,rfl,rfl,by kernel_rfl⟩ ⟨_,rfl,rfl,rfl,rfl,by kernel_rfl⟩ ⟨_,rfl,rfl,rfl,rfl,by kernel_rfl⟩ ⟨_,rfl,rfl,rfl,rfl,by kernel_rfl⟩ (Below.refl _ _).drew (run_field23 _ 1 (by omega)) (fun W hb=>run_load3 ((QC.out.kept hb).cell 1 (v:=.int .i64 M.h) rfl)) (fun W hb=>(md_heads F p hp W _ _ _ (r10.below hb) l10).mono fun e w' ⟨⟨a,c,q1,q2,q3⟩,q4⟩=>⟨a,c,q1,q2,q3,q4,bTn hb q4⟩) trivial (run_field23 _ 1 (by omega)) (fun W hb=>run_load3 ((QC.out.kept hb).cell 1 (v:=.int .i64 M.h) rfl)) (fun W hb=>(md_heads F p hp W _ _ _ (r5.below hb) l5).mono fun e w' ⟨⟨a,c,q1,q2,q3⟩,q4⟩=>⟨a,c,q1,q2,q3,q4,bTn hb q4⟩) trivial rfl rfl rfl rfl rfl (Nat.le_of_ble_eq_true rfl) ?_
 intro a W9 hs hd hkp hS9 hval
 have e12:a.tmps.getD 12 undef=.slice a12 M.D c12:=hval 19 12 (by decide) rfl
 obtain⟨q9,qc9,e10,f10,z10⟩:=hval 17 10 (by decide) rfl
 obtain⟨k9,kc9,e11,f11,z11⟩:=hval 18 11 (by decide) rfl
 have ep:=fPu [101,102,103,104,105,106,107,108,109,110,111,112,113,114,115,116,117,10,11,12] hs hd (fun s h=>hkp s (fun i hi e=>h (by
  rcases (show i=0∨i=1∨i=2∨i=3∨i=4∨i=5∨i=6∨i=7∨i=8∨i=9∨i=10∨i=11∨i=12∨i=13∨i=14∨i=15∨i=16∨i=17∨i=18∨i=19 by omega) with rfl|rfl|rfl|rfl|rfl|rfl|rfl|rfl|rfl|rfl|rfl|rfl|rfl|rfl|rfl|rfl|rfl|rfl|rfl|rfl<;>(simp only[lhD,Option.some.injEq] at e;subst e;simp))))
 simp only[List.foldl] at ep
 rw[e12] at ep
 rw[e10] at ep
 rw[e11] at ep
 have H9:=hdn hS9
 clear hs hd hkp hval hS9 e12 e10 e11
 generalize a.tmps.getD 101 undef=g101,a.tmps.getD 102 undef=g102,a.tmps.getD 103 undef=g103,a.tmps.getD 104 undef=g104,a.tmps.getD 105 undef=g105,a.tmps.getD 106 undef=g106,a.tmps.getD 107 undef=g107,a.tmps.getD 108 undef=g108,a.tmps.getD 109 undef=g109,a.tmps.getD 110 undef=g110,a.tmps.getD 111 undef=g111,a.tmps.getD 112 undef=g112,a.tmps.getD 113 undef=g113,a.tmps.getD 114 undef=g114,a.tmps.getD 115 undef=g115,a.tmps.getD 116 undef=g116,a.tmps.getD 117 undef=g117 at ep
 simp only[Act.put,List.setIfInBounds_toArray,List.set_cons_succ,List.set_cons_zero] at ep
 subst ep
 have fv:=r12.below H9.out
 have hbE:=bTn hb12 H9.out
 go_wp2
 refine bodyPost_ret (v:=.tuple #[.slice q9 M.D qc9,.slice k9 M.D kc9,.slice a12 M.D c12]) ?_ rfl ⟨⟨q9,qc9,k9,kc9,a12,c12,rfl,⟨f10,z10⟩,⟨f11,z11⟩,fv,l12,FW.out⟩,hbE⟩
 simp[results,Tryz.results60,go_sem]
theorem looks_call (M:Md)(E L N O:SL)(Y U D:Nat→Nat→SL)(La:SL)(Ya:Nat→Nat→SL)(F:MdFit M)(hok:M.r≠0→∃ R,AdFit M R)(i:Nat)(hi:i<M.m.ln)(p:Int)(hp:0≤p∧p≤1000)(w:World)(hM:ModAt w E L N O Y U D M.m)(hA:AdAt w La Ya M.a)(ax:Option Addr)(cx:Nat)(x:List Int)(hx:Reads .i64 w ax M.D x) :
  Calls Tryz.prog 60 #[.agg #[.int .i64 M.d,.int .i64 M.h,.int .i64 M.l,.int .i64 M.v,.int .i64 M.u,.int .i64 M.x,.int .i64 M.t,.int .i64 M.n,.slice E.a E.n E.c,.slice L.a L.n L.c,.slice N.a N.n N.c,.slice O.a O.n O.c],.agg #[.int .i64 M.r,.int .i64 M.s,.slice La.a La.n La.c],.int .i64 i,.int .i64 p,.slice ax M.D cx] w fun e w'=>(∃ q cq k ck v cv,e=.returned (.tuple #[.slice q M.D cq,.slice k M.D ck,.slice v M.D cv])∧(Reads .i64 w' q M.D (qL M p i x)∧M.D≤cq)∧(Reads .i64 w' k M.D (kL M p i x)∧M.D≤ck)∧(Reads .i64 w' v M.D (vL M i x)∧M.D≤cv∧∀ x,v=some x→w.heap.size≤x.block))∧Below w.heap.size w w':=by
 obtain⟨x0,hx0⟩:=hM.some_ (by omega)
 by_cases hr0:M.r=0
 ·have:=looks_no M E L N O Y U D La Ya x0 F hr0 i hi p hp w hM hx0 ax cx x hx
  rw[hx0,hM.len]
  exact this
 ·obtain⟨R,A⟩:=hok hr0
  obtain⟨y0,hy0⟩:=hA.some_ (by rw[A.ln];omega)
  have:=looks_yes M E L N O Y U D La Ya x0 y0 F hr0 R A i hi p hp w hM hA hx0 hy0 ax cx x hx
  rw[hx0,hM.len,hy0,hA.len,A.ln]
  exact this
end
end Go.Proofs.YthliomlmhfjhnaaGreat
