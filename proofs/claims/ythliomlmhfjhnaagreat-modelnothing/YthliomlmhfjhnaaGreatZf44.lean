/- Texts put together. -/
import Derived.Test.YthliomlmhfjhnaaGreatRows
import Derived.Test.YthliomlmhfjhnaaGreatZf23
import Derived.Test.YthliomlmhfjhnaaGreatZf26
import Derived.Test.YthliomlmhfjhnaaGreatZf38
namespace Go.Proofs.YthliomlmhfjhnaaGreat
set_option maxRecDepth 20000
set_option maxHeartbeats 16000000
open Go.ChangeShapes Go.WideShapes Go.ChangeAt Go.RowKit
set_option linter.unusedVariables false
set_option linter.unusedSimpArgs false
section
theorem checked_none (M:Md)(E L N O:SL)(Y U D:Nat→Nat→SL)(La:SL)(Ya:Nat→Nat→SL)(w:World)(hM:ModAt w E L N O Y U D M.m)(hE:checkB M.d M.h M.l M.v M.u M.x M.t M.n M.m=0)(hr0:M.r=0) :
  Calls Tryz.prog 29 #[.agg #[.int .i64 M.d,.int .i64 M.h,.int .i64 M.l,.int .i64 M.v,.int .i64 M.u,.int .i64 M.x,.int .i64 M.t,.int .i64 M.n,.slice E.a E.n E.c,.slice L.a L.n L.c,.slice N.a N.n N.c,.slice O.a O.n O.c],.agg #[.int .i64 M.r,.int .i64 M.s,.slice La.a La.n La.c]] w fun e w'=>e=.returned (.tuple #[.agg #[.int .i64 M.d,.int .i64 M.h,.int .i64 M.l,.int .i64 M.v,.int .i64 M.u,.int .i64 M.x,.int .i64 M.t,.int .i64 M.n,.slice E.a E.n E.c,.slice L.a L.n L.c,.slice N.a N.n N.c,.slice O.a O.n O.c],.agg #[.int .i64 M.r,.int .i64 M.s,.slice La.a La.n La.c]])∧Below w.heap.size w w':=by
 have hb0:=bNw (bNw (bNw (bNw (Below.refl w.heap.size w) (.cells #[.int .i64 M.d,.int .i64 M.h,.int .i64 M.l,.int .i64 M.v,.int .i64 M.u,.int .i64 M.x,.int .i64 M.t,.int .i64 M.n,.slice E.a E.n E.c,.slice L.a L.n L.c,.slice N.a N.n N.c,.slice O.a O.n O.c] 27)) (.cells #[.int .i64 M.r,.int .i64 M.s,.slice La.a La.n La.c] 30)) (.cells #[.int .i64 0,.int .i64 0,.int .i64 0,.int .i64 0,.int .i64 0,.int .i64 0,.int .i64 0,.int .i64 0,.slice none 0 0,.slice none 0 0,.slice none 0 0,.slice none 0 0] 27)) (.cells #[.int .i64 0,.int .i64 0,.slice none 0 0] 30)
 have q1:Blk 27 ((((w.alloc (.cells #[.int .i64 M.d,.int .i64 M.h,.int .i64 M.l,.int .i64 M.v,.int .i64 M.u,.int .i64 M.x,.int .i64 M.t,.int .i64 M.n,.slice E.a E.n E.c,.slice L.a L.n L.c,.slice N.a N.n N.c,.slice O.a O.n O.c] 27)).alloc (.cells #[.int .i64 M.r,.int .i64 M.s,.slice La.a La.n La.c] 30)).alloc (.cells #[.int .i64 0,.int .i64 0,.int .i64 0,.int .i64 0,.int .i64 0,.int .i64 0,.int .i64 0,.int .i64 0,.slice none 0 0,.slice none 0 0,.slice none 0 0,.slice none 0 0] 27)).alloc (.cells #[.int .i64 0,.int .i64 0,.slice none 0 0] 30)) w.heap.size #[.int .i64 M.d,.int .i64 M.h,.int .i64 M.l,.int .i64 M.v,.int .i64 M.u,.int .i64 M.x,.int .i64 M.t,.int .i64 M.n,.slice E.a E.n E.c,.slice L.a L.n L.c,.slice N.a N.n N.c,.slice O.a O.n O.c]:=(Blk.new 27 w _).kept (bNw (bNw (bNw (Below.refl _ _) _) _) _)
 have q2:Blk 30 ((((w.alloc (.cells #[.int .i64 M.d,.int .i64 M.h,.int .i64 M.l,.int .i64 M.v,.int .i64 M.u,.int .i64 M.x,.int .i64 M.t,.int .i64 M.n,.slice E.a E.n E.c,.slice L.a L.n L.c,.slice N.a N.n N.c,.slice O.a O.n O.c] 27)).alloc (.cells #[.int .i64 M.r,.int .i64 M.s,.slice La.a La.n La.c] 30)).alloc (.cells #[.int .i64 0,.int .i64 0,.int .i64 0,.int .i64 0,.int .i64 0,.int .i64 0,.int .i64 0,.int .i64 0,.slice none 0 0,.slice none 0 0,.slice none 0 0,.slice none 0 0] 27)).alloc (.cells #[.int .i64 0,.int .i64 0,.slice none 0 0] 30)) (w.heap.size+1) #[.int .i64 M.r,.int .i64 M.s,.slice La.a La.n La.c]:=(Blk.new_at 30 (w.alloc _) _ _ (by simp)).kept (bNw (bNw (Below.refl _ _) _) _)
 have q3:Blk 27 ((((w.alloc (.cells #[.int .i64 M.d,.int .i64 M.h,.int .i64 M.l,.int .i64 M.v,.int .i64 M.u,.int .i64 M.x,.int .i64 M.t,.int .i64 M.n,.slice E.a E.n E.c,.slice L.a L.n L.c,.slice N.a N.n N.c,.slice O.a O.n O.c] 27)).alloc (.cells #[.int .i64 M.r,.int .i64 M.s,.slice La.a La.n La.c] 30)).alloc (.cells #[.int .i64 0,.int .i64 0,.int .i64 0,.int .i64 0,.int .i64 0,.int .i64 0,.int .i64 0,.int .i64 0,.slice none 0 0,.slice none 0 0,.slice none 0 0,.slice none 0 0] 27)).alloc (.cells #[.int .i64 0,.int .i64 0,.slice none 0 0] 30)) (w.heap.size+1+1) #[.int .i64 0,.int .i64 0,.int .i64 0,.int .i64 0,.int .i64 0,.int .i64 0,.int .i64 0,.int .i64 0,.slice none 0 0,.slice none 0 0,.slice none 0 0,.slice none 0 0]:=(Blk.new_at 27 ((w.alloc _).alloc _) _ _ (by simp)).kept (bNw (Below.refl _ _) _)
 have q4:Blk 30 ((((w.alloc (.cells #[.int .i64 M.d,.int .i64 M.h,.int .i64 M.l,.int .i64 M.v,.int .i64 M.u,.int .i64 M.x,.int .i64 M.t,.int .i64 M.n,.slice E.a E.n E.c,.slice L.a L.n L.c,.slice N.a N.n N.c,.slice O.a O.n O.c] 27)).alloc (.cells #[.int .i64 M.r,.int .i64 M.s,.slice La.a La.n La.c] 30)).alloc (.cells #[.int .i64 0,.int .i64 0,.int .i64 0,.int .i64 0,.int .i64 0,.int .i64 0,.int .i64 0,.int .i64 0,.slice none 0 0,.slice none 0 0,.slice none 0 0,.slice none 0 0] 27)).alloc (.cells #[.int .i64 0,.int .i64 0,.slice none 0 0] 30)) (w.heap.size+1+1+1) #[.int .i64 0,.int .i64 0,.slice none 0 0]:=Blk.new_at 30 (((w.alloc _).alloc _).alloc _) _ _ (by simp)
 have kc:=fun (W:World) (hb:Below w.heap.size w W)=>check_call M.d M.h M.l M.v M.u M.x M.t M.n E L N O Y U D M.m W (hM.below hb)
 have hnot:∀ (x:Bool) (w:World),(Op.unary .not (.bool x)).run Tryz.prog w=.ok (.bool (!x)) w:=fun _ _=>rfl
 rw[hE] at kc
 have kg:=grafted_no M.r M.s La hr0
 clear hr0 hE
 go_enter Tryz.func29,Tryz.ntmps29
 go_wp2
 refine cy_region M E L N O 0 w.heap.size q1 (by kernel_rfl) rfl ⟨_,rfl,rfl,rfl,rfl,by kernel_rfl⟩ ⟨_,rfl,rfl,rfl,rfl,by kernel_rfl⟩ ⟨_,rfl,rfl,rfl,rfl,by kernel_rfl⟩ ⟨_,rfl,rfl,rfl,rfl,by kernel_rfl⟩ ⟨_,rfl,rfl,rfl,rfl,by kernel_rfl⟩ rfl (fun W hb=>kc W (bTn hb0 hb)) (fun W=>mdmustM_yes M.d M.h M.l M.v M.u M.x M.t M.n E L N O W) (Nat.le_of_ble_eq_true rfl) ?_
 intro a W2 hs hd hkp hb2
 have ep:=fPu [6,7,8,9] hs hd (fun s h=>hkp s (fun j hj e=>h (by
  rcases (show j=0∨j=1∨j=2∨j=3∨j=4 by omega) with rfl|rfl|rfl|rfl|rfl<;>first|(simp only[cyD,Option.some.injEq] at e;subst e;simp;done)|(simp[cyD] at e))))
 simp only[List.foldl] at ep
 clear hs hd hkp
 generalize a.tmps.getD 6 undef=g6,a.tmps.getD 7 undef=g7,a.tmps.getD 8 undef=g8,a.tmps.getD 9 undef=g9 at ep
 simp only[Act.put,List.setIfInBounds_toArray,List.set_cons_succ,List.set_cons_zero] at ep
 subst ep
 have hb:=bTn hb0 hb2
 have Q1:=hdn (q1.kept hb2)
 have Q2:=hdn (q2.kept hb2)
 have Q3:=hdn (q3.kept hb2)
 have Q4:=hdn (q4.kept hb2)
 obtain⟨s0,s1,s2⟩:=(q2.kept hb2).c3
 clear q1 q2 q3 q4 hb0 hb2 kc
 go_wp2_with (go_at_call 53;refine (kg _).mono ?_;rintro e W3 ⟨rfl,h3⟩;clear kg;have hb3:=bTn hb h3;have P1:=hdn (Q1.out.kept h3);have P2:=hdn (Q2.out.kept h3);have P3:=hdn (Q3.out.kept h3);have P4:=hdn (Q4.out.kept h3);clear h3 hb Q1 Q2 Q3 Q4 s0 s1 s2)
 refine c3_region M E L N O La w.heap.size (w.heap.size+1) (w.heap.size+1+1) (w.heap.size+1+1+1) 0 w.heap.size w (by omega) (by omega) (by omega) (by kernel_rfl) rfl ⟨_,rfl,rfl,rfl,rfl,by kernel_rfl⟩ ⟨_,rfl,rfl,rfl,rfl,by kernel_rfl⟩ ⟨_,rfl,rfl,rfl,rfl,by kernel_rfl⟩ ⟨_,rfl,rfl,rfl,rfl,by kernel_rfl⟩ rfl rfl rfl rfl (by omega) ⟨hb3.drew,hb3.size,P1.out,P2.out,P3.out,P4.out⟩ (Nat.le_of_ble_eq_true rfl) ?_
 intro a W5 hs hd hkp hb5 r3 r4
 have ep:=fPu [13,14] hs hd (fun s h=>hkp s (fun j hj e=>h (by
  rcases (show j=0∨j=1∨j=2∨j=3 by omega) with rfl|rfl|rfl|rfl<;>first|(simp only[c3D,Option.some.injEq] at e;subst e;simp;done)|(simp[c3D] at e))))
 simp only[List.foldl] at ep
 clear hs hd hkp
 generalize a.tmps.getD 13 undef=g13,a.tmps.getD 14 undef=g14 at ep
 simp only[Act.put,List.setIfInBounds_toArray,List.set_cons_succ,List.set_cons_zero] at ep
 subst ep
 obtain⟨y0,y1,y2,y3,y4,y5,y6,y7,y8,y9,y10,y11⟩:=r3.c12
 obtain⟨z0,z1,z2⟩:=r4.c3
 go_wp2
 refine bodyPost_ret (v:=.tuple #[.agg #[.int .i64 M.d,.int .i64 M.h,.int .i64 M.l,.int .i64 M.v,.int .i64 M.u,.int .i64 M.x,.int .i64 M.t,.int .i64 M.n,.slice E.a E.n E.c,.slice L.a L.n L.c,.slice N.a N.n N.c,.slice O.a O.n O.c],.agg #[.int .i64 M.r,.int .i64 M.s,.slice La.a La.n La.c]]) ?_ rfl ⟨rfl,hb5⟩
 simp[results,Tryz.results29,go_sem,y0,y1,y2,y3,y4,y5,y6,y7,y8,y9,y10,y11,z0,z1,z2]
theorem checked_yes (M:Md)(E L N O:SL)(Y U D:Nat→Nat→SL)(La:SL)(Ya:Nat→Nat→SL)(w:World)(hM:ModAt w E L N O Y U D M.m)(hA:AdAt w La Ya M.a)(hE:checkB M.d M.h M.l M.v M.u M.x M.t M.n M.m=0)(hr0:M.r≠0)(hEA:checkA M.r M.s M.d M.h M.l M.v M.u M.x M.t M.n M.a=0) :
  Calls Tryz.prog 29 #[.agg #[.int .i64 M.d,.int .i64 M.h,.int .i64 M.l,.int .i64 M.v,.int .i64 M.u,.int .i64 M.x,.int .i64 M.t,.int .i64 M.n,.slice E.a E.n E.c,.slice L.a L.n L.c,.slice N.a N.n N.c,.slice O.a O.n O.c],.agg #[.int .i64 M.r,.int .i64 M.s,.slice La.a La.n La.c]] w fun e w'=>e=.returned (.tuple #[.agg #[.int .i64 M.d,.int .i64 M.h,.int .i64 M.l,.int .i64 M.v,.int .i64 M.u,.int .i64 M.x,.int .i64 M.t,.int .i64 M.n,.slice E.a E.n E.c,.slice L.a L.n L.c,.slice N.a N.n N.c,.slice O.a O.n O.c],.agg #[.int .i64 M.r,.int .i64 M.s,.slice La.a La.n La.c]])∧Below w.heap.size w w':=by
 have hb0:=bNw (bNw (bNw (bNw (Below.refl w.heap.size w) (.cells #[.int .i64 M.d,.int .i64 M.h,.int .i64 M.l,.int .i64 M.v,.int .i64 M.u,.int .i64 M.x,.int .i64 M.t,.int .i64 M.n,.slice E.a E.n E.c,.slice L.a L.n L.c,.slice N.a N.n N.c,.slice O.a O.n O.c] 27)) (.cells #[.int .i64 M.r,.int .i64 M.s,.slice La.a La.n La.c] 30)) (.cells #[.int .i64 0,.int .i64 0,.int .i64 0,.int .i64 0,.int .i64 0,.int .i64 0,.int .i64 0,.int .i64 0,.slice none 0 0,.slice none 0 0,.slice none 0 0,.slice none 0 0] 27)) (.cells #[.int .i64 0,.int .i64 0,.slice none 0 0] 30)
 have q1:Blk 27 ((((w.alloc (.cells #[.int .i64 M.d,.int .i64 M.h,.int .i64 M.l,.int .i64 M.v,.int .i64 M.u,.int .i64 M.x,.int .i64 M.t,.int .i64 M.n,.slice E.a E.n E.c,.slice L.a L.n L.c,.slice N.a N.n N.c,.slice O.a O.n O.c] 27)).alloc (.cells #[.int .i64 M.r,.int .i64 M.s,.slice La.a La.n La.c] 30)).alloc (.cells #[.int .i64 0,.int .i64 0,.int .i64 0,.int .i64 0,.int .i64 0,.int .i64 0,.int .i64 0,.int .i64 0,.slice none 0 0,.slice none 0 0,.slice none 0 0,.slice none 0 0] 27)).alloc (.cells #[.int .i64 0,.int .i64 0,.slice none 0 0] 30)) w.heap.size #[.int .i64 M.d,.int .i64 M.h,.int .i64 M.l,.int .i64 M.v,.int .i64 M.u,.int .i64 M.x,.int .i64 M.t,.int .i64 M.n,.slice E.a E.n E.c,.slice L.a L.n L.c,.slice N.a N.n N.c,.slice O.a O.n O.c]:=(Blk.new 27 w _).kept (bNw (bNw (bNw (Below.refl _ _) _) _) _)
 have q2:Blk 30 ((((w.alloc (.cells #[.int .i64 M.d,.int .i64 M.h,.int .i64 M.l,.int .i64 M.v,.int .i64 M.u,.int .i64 M.x,.int .i64 M.t,.int .i64 M.n,.slice E.a E.n E.c,.slice L.a L.n L.c,.slice N.a N.n N.c,.slice O.a O.n O.c] 27)).alloc (.cells #[.int .i64 M.r,.int .i64 M.s,.slice La.a La.n La.c] 30)).alloc (.cells #[.int .i64 0,.int .i64 0,.int .i64 0,.int .i64 0,.int .i64 0,.int .i64 0,.int .i64 0,.int .i64 0,.slice none 0 0,.slice none 0 0,.slice none 0 0,.slice none 0 0] 27)).alloc (.cells #[.int .i64 0,.int .i64 0,.slice none 0 0] 30)) (w.heap.size+1) #[.int .i64 M.r,.int .i64 M.s,.slice La.a La.n La.c]:=(Blk.new_at 30 (w.alloc _) _ _ (by simp)).kept (bNw (bNw (Below.refl _ _) _) _)
 have q3:Blk 27 ((((w.alloc (.cells #[.int .i64 M.d,.int .i64 M.h,.int .i64 M.l,.int .i64 M.v,.int .i64 M.u,.int .i64 M.x,.int .i64 M.t,.int .i64 M.n,.slice E.a E.n E.c,.slice L.a L.n L.c,.slice N.a N.n N.c,.slice O.a O.n O.c] 27)).alloc (.cells #[.int .i64 M.r,.int .i64 M.s,.slice La.a La.n La.c] 30)).alloc (.cells #[.int .i64 0,.int .i64 0,.int .i64 0,.int .i64 0,.int .i64 0,.int .i64 0,.int .i64 0,.int .i64 0,.slice none 0 0,.slice none 0 0,.slice none 0 0,.slice none 0 0] 27)).alloc (.cells #[.int .i64 0,.int .i64 0,.slice none 0 0] 30)) (w.heap.size+1+1) #[.int .i64 0,.int .i64 0,.int .i64 0,.int .i64 0,.int .i64 0,.int .i64 0,.int .i64 0,.int .i64 0,.slice none 0 0,.slice none 0 0,.slice none 0 0,.slice none 0 0]:=(Blk.new_at 27 ((w.alloc _).alloc _) _ _ (by simp)).kept (bNw (Below.refl _ _) _)
 have q4:Blk 30 ((((w.alloc (.cells #[.int .i64 M.d,.int .i64 M.h,.int .i64 M.l,.int .i64 M.v,.int .i64 M.u,.int .i64 M.x,.int .i64 M.t,.int .i64 M.n,.slice E.a E.n E.c,.slice L.a L.n L.c,.slice N.a N.n N.c,.slice O.a O.n O.c] 27)).alloc (.cells #[.int .i64 M.r,.int .i64 M.s,.slice La.a La.n La.c] 30)).alloc (.cells #[.int .i64 0,.int .i64 0,.int .i64 0,.int .i64 0,.int .i64 0,.int .i64 0,.int .i64 0,.int .i64 0,.slice none 0 0,.slice none 0 0,.slice none 0 0,.slice none 0 0] 27)).alloc (.cells #[.int .i64 0,.int .i64 0,.slice none 0 0] 30)) (w.heap.size+1+1+1) #[.int .i64 0,.int .i64 0,.slice none 0 0]:=Blk.new_at 30 (((w.alloc _).alloc _).alloc _) _ _ (by simp)
 have kc:=fun (W:World) (hb:Below w.heap.size w W)=>check_call M.d M.h M.l M.v M.u M.x M.t M.n E L N O Y U D M.m W (hM.below hb)
 have hnot:∀ (x:Bool) (w:World),(Op.unary .not (.bool x)).run Tryz.prog w=.ok (.bool (!x)) w:=fun _ _=>rfl
 have ka:=fun (W:World) (hb:Below w.heap.size w W)=>grcheck_call M.r M.s M.d M.h M.l M.v M.u M.x M.t M.n La Ya M.a W (hA.below hb)
 rw[hE] at kc
 rw[hEA] at ka
 have kg:=grafted_yes M.r M.s La hr0
 clear hr0 hE hEA
 go_enter Tryz.func29,Tryz.ntmps29
 go_wp2
 refine cy_region M E L N O 0 w.heap.size q1 (by kernel_rfl) rfl ⟨_,rfl,rfl,rfl,rfl,by kernel_rfl⟩ ⟨_,rfl,rfl,rfl,rfl,by kernel_rfl⟩ ⟨_,rfl,rfl,rfl,rfl,by kernel_rfl⟩ ⟨_,rfl,rfl,rfl,rfl,by kernel_rfl⟩ ⟨_,rfl,rfl,rfl,rfl,by kernel_rfl⟩ rfl (fun W hb=>kc W (bTn hb0 hb)) (fun W=>mdmustM_yes M.d M.h M.l M.v M.u M.x M.t M.n E L N O W) (Nat.le_of_ble_eq_true rfl) ?_
 intro a W2 hs hd hkp hb2
 have ep:=fPu [6,7,8,9] hs hd (fun s h=>hkp s (fun j hj e=>h (by
  rcases (show j=0∨j=1∨j=2∨j=3∨j=4 by omega) with rfl|rfl|rfl|rfl|rfl<;>first|(simp only[cyD,Option.some.injEq] at e;subst e;simp;done)|(simp[cyD] at e))))
 simp only[List.foldl] at ep
 clear hs hd hkp
 generalize a.tmps.getD 6 undef=g6,a.tmps.getD 7 undef=g7,a.tmps.getD 8 undef=g8,a.tmps.getD 9 undef=g9 at ep
 simp only[Act.put,List.setIfInBounds_toArray,List.set_cons_succ,List.set_cons_zero] at ep
 subst ep
 have hb:=bTn hb0 hb2
 have Q1:=hdn (q1.kept hb2)
 have Q2:=hdn (q2.kept hb2)
 have Q3:=hdn (q3.kept hb2)
 have Q4:=hdn (q4.kept hb2)
 obtain⟨s0,s1,s2⟩:=(q2.kept hb2).c3
 clear q1 q2 q3 q4 hb0 hb2 kc
 go_wp2_with (go_at_call 53;refine (kg _).mono ?_;rintro e W3 ⟨rfl,h3⟩;clear kg;have hb3:=bTn hb h3;have P1:=hdn (Q1.out.kept h3);have P2:=hdn (Q2.out.kept h3);have P3:=hdn (Q3.out.kept h3);have P4:=hdn (Q4.out.kept h3);clear h3 hb Q1 Q2 Q3 Q4 s0 s1 s2)
 refine c4_region M E L N O La w.heap.size (w.heap.size+1) (w.heap.size+1+1) (w.heap.size+1+1+1) 0 w.heap.size w (by omega) (by omega) (by omega) (by kernel_rfl) rfl ⟨_,rfl,rfl,rfl,rfl,by kernel_rfl⟩ ⟨_,rfl,rfl,rfl,rfl,by kernel_rfl⟩ ⟨_,rfl,rfl,rfl,rfl,by kernel_rfl⟩ ⟨_,rfl,rfl,rfl,rfl,by kernel_rfl⟩ ⟨_,rfl,rfl,rfl,rfl,by kernel_rfl⟩ ⟨_,rfl,rfl,rfl,rfl,by kernel_rfl⟩ ⟨_,rfl,rfl,rfl,rfl,by kernel_rfl⟩ ⟨_,rfl,rfl,rfl,rfl,by kernel_rfl⟩ ⟨_,rfl,rfl,rfl,rfl,by kernel_rfl⟩ rfl rfl rfl rfl (by omega) ⟨hb3.drew,hb3.size,P1.out,P2.out,P3.out,P4.out⟩ ka (fun W=>mdmustA_yes M.r M.s La W) (Nat.le_of_ble_eq_true rfl) ?_
 intro a W5 hs hd hkp hb5 r3 r4
 have ep:=fPu [15,16,17,18,19,20,21] hs hd (fun s h=>hkp s (fun j hj e=>h (by
  rcases (show j=0∨j=1∨j=2∨j=3∨j=4∨j=5∨j=6∨j=7∨j=8 by omega) with rfl|rfl|rfl|rfl|rfl|rfl|rfl|rfl|rfl<;>first|(simp only[c4D,Option.some.injEq] at e;subst e;simp;done)|(simp[c4D] at e))))
 simp only[List.foldl] at ep
 clear hs hd hkp
 generalize a.tmps.getD 15 undef=g15,a.tmps.getD 16 undef=g16,a.tmps.getD 17 undef=g17,a.tmps.getD 18 undef=g18,a.tmps.getD 19 undef=g19,a.tmps.getD 20 undef=g20,a.tmps.getD 21 undef=g21 at ep
 simp only[Act.put,List.setIfInBounds_toArray,List.set_cons_succ,List.set_cons_zero] at ep
 subst ep
 obtain⟨y0,y1,y2,y3,y4,y5,y6,y7,y8,y9,y10,y11⟩:=r3.c12
 obtain⟨z0,z1,z2⟩:=r4.c3
 go_wp2
 refine bodyPost_ret (v:=.tuple #[.agg #[.int .i64 M.d,.int .i64 M.h,.int .i64 M.l,.int .i64 M.v,.int .i64 M.u,.int .i64 M.x,.int .i64 M.t,.int .i64 M.n,.slice E.a E.n E.c,.slice L.a L.n L.c,.slice N.a N.n N.c,.slice O.a O.n O.c],.agg #[.int .i64 M.r,.int .i64 M.s,.slice La.a La.n La.c]]) ?_ rfl ⟨rfl,hb5⟩
 simp[results,Tryz.results29,go_sem,y0,y1,y2,y3,y4,y5,y6,y7,y8,y9,y10,y11,z0,z1,z2]
def badE (M:Md):Int:=if checkB M.d M.h M.l M.v M.u M.x M.t M.n M.m=0 then (if M.r=0 then 0 else checkA M.r M.s M.d M.h M.l M.v M.u M.x M.t M.n M.a) else checkB M.d M.h M.l M.v M.u M.x M.t M.n M.m
theorem badE_ok {M:Md}(h:badE M=0):MdOk M:=by
 unfold badE at h
 by_cases h1:checkB M.d M.h M.l M.v M.u M.x M.t M.n M.m=0
 ·rw[if_pos h1] at h
  refine⟨?_,h1,fun hr=>?_⟩
  ·unfold checkB at h1
   cases ok:okB M.d M.h M.l M.v M.u M.x M.t M.n with
   | true=>rfl
   | false=>rw[ok,if_neg (by decide)] at h1;exact absurd h1 (by decide)
  ·rw[if_neg hr] at h
   exact h
 ·rw[if_neg h1] at h
  exact absurd h h1
theorem MdOk.none_bad {M:Md}(h:MdOk M):badE M=0:=by
 unfold badE
 rw[if_pos h.ck]
 by_cases hr:M.r=0
 ·rw[if_pos hr]
 ·rw[if_neg hr,h.ad hr]
theorem checked_ok (M:Md)(E L N O:SL)(Y U D:Nat→Nat→SL)(La:SL)(Ya:Nat→Nat→SL)(w:World)(hM:ModAt w E L N O Y U D M.m)(hA:AdAt w La Ya M.a)(h:badE M=0):Calls Tryz.prog 29 #[.agg #[.int .i64 M.d,.int .i64 M.h,.int .i64 M.l,.int .i64 M.v,.int .i64 M.u,.int .i64 M.x,.int .i64 M.t,.int .i64 M.n,.slice E.a E.n E.c,.slice L.a L.n L.c,.slice N.a N.n N.c,.slice O.a O.n O.c],.agg #[.int .i64 M.r,.int .i64 M.s,.slice La.a La.n La.c]] w fun e w'=>e=.returned (.tuple #[.agg #[.int .i64 M.d,.int .i64 M.h,.int .i64 M.l,.int .i64 M.v,.int .i64 M.u,.int .i64 M.x,.int .i64 M.t,.int .i64 M.n,.slice E.a E.n E.c,.slice L.a L.n L.c,.slice N.a N.n N.c,.slice O.a O.n O.c],.agg #[.int .i64 M.r,.int .i64 M.s,.slice La.a La.n La.c]])∧Below w.heap.size w w':=by
 have k:=badE_ok h
 by_cases hr:M.r=0
 ·exact checked_none M E L N O Y U D La Ya w hM k.ck hr
 ·exact checked_yes M E L N O Y U D La Ya w hM hA k.ck hr (k.ad hr)
end
section
theorem Run_ok (M:Md)(E L N O:SL)(Y U D:Nat→Nat→SL)(La:SL)(Ya:Nat→Nat→SL)(w:World)(hM:ModAt w E L N O Y U D M.m)(hA:AdAt w La Ya M.a)(ta:Option Addr)(n tc:Nat)(RP:World→Option Addr→Nat→Nat→Option Addr→Nat→Nat→Prop)(hE:badE M=0)(k:∀ W,Below w.heap.size w W→Calls Tryz.prog 44 #[.agg #[.int .i64 M.d,.int .i64 M.h,.int .i64 M.l,.int .i64 M.v,.int .i64 M.u,.int .i64 M.x,.int .i64 M.t,.int .i64 M.n,.slice E.a E.n E.c,.slice L.a L.n L.c,.slice N.a N.n N.c,.slice O.a O.n O.c],.agg #[.int .i64 M.r,.int .i64 M.s,.slice La.a La.n La.c],.slice ta n tc] W fun e w'=>(∃ a m c b j k,e=.returned (.tuple #[.slice a m c,.slice b j k])∧RP w' a m c b j k)∧Below W.heap.size W w') :
  Calls Tryz.prog 21 #[.agg #[.int .i64 M.d,.int .i64 M.h,.int .i64 M.l,.int .i64 M.v,.int .i64 M.u,.int .i64 M.x,.int .i64 M.t,.int .i64 M.n,.slice E.a E.n E.c,.slice L.a L.n L.c,.slice N.a N.n N.c,.slice O.a O.n O.c],.agg #[.int .i64 M.r,.int .i64 M.s,.slice La.a La.n La.c],.slice ta n tc] w fun e w'=>(∃ a m c b j k,e=.returned (.tuple #[.slice a m c,.slice b j k,.int .i64 0])∧RP w' a m c b j k)∧Below w.heap.size w w':=by
 have hmf:∀ (fn:Fn) (first cap:Array Value) (w:World),(Instr.makeFunc fn first cap).run Tryz.prog w=.ok (.func fn first cap) w:=fun _ _ _ _=>rfl
 have hb0:=bNw (bNw (bNw (Below.refl w.heap.size w) (.cells #[.int .i64 M.d,.int .i64 M.h,.int .i64 M.l,.int .i64 M.v,.int .i64 M.u,.int .i64 M.x,.int .i64 M.t,.int .i64 M.n,.slice E.a E.n E.c,.slice L.a L.n L.c,.slice N.a N.n N.c,.slice O.a O.n O.c] 27)) (.cells #[.int .i64 M.r,.int .i64 M.s,.slice La.a La.n La.c] 30)) (.cells #[.int .i64 0] 35)
 have q1:Blk 27 (((w.alloc (.cells #[.int .i64 M.d,.int .i64 M.h,.int .i64 M.l,.int .i64 M.v,.int .i64 M.u,.int .i64 M.x,.int .i64 M.t,.int .i64 M.n,.slice E.a E.n E.c,.slice L.a L.n L.c,.slice N.a N.n N.c,.slice O.a O.n O.c] 27)).alloc (.cells #[.int .i64 M.r,.int .i64 M.s,.slice La.a La.n La.c] 30)).alloc (.cells #[.int .i64 0] 35)) w.heap.size #[.int .i64 M.d,.int .i64 M.h,.int .i64 M.l,.int .i64 M.v,.int .i64 M.u,.int .i64 M.x,.int .i64 M.t,.int .i64 M.n,.slice E.a E.n E.c,.slice L.a L.n L.c,.slice N.a N.n N.c,.slice O.a O.n O.c]:=(Blk.new 27 w _).kept (bNw (bNw (Below.refl _ _) _) _)
 have q2:Blk 30 (((w.alloc (.cells #[.int .i64 M.d,.int .i64 M.h,.int .i64 M.l,.int .i64 M.v,.int .i64 M.u,.int .i64 M.x,.int .i64 M.t,.int .i64 M.n,.slice E.a E.n E.c,.slice L.a L.n L.c,.slice N.a N.n N.c,.slice O.a O.n O.c] 27)).alloc (.cells #[.int .i64 M.r,.int .i64 M.s,.slice La.a La.n La.c] 30)).alloc (.cells #[.int .i64 0] 35)) (w.heap.size+1) #[.int .i64 M.r,.int .i64 M.s,.slice La.a La.n La.c]:=(Blk.new_at 30 (w.alloc _) _ _ (by simp)).kept (bNw (Below.refl _ _) _)
 have q3:Blk 35 (((w.alloc (.cells #[.int .i64 M.d,.int .i64 M.h,.int .i64 M.l,.int .i64 M.v,.int .i64 M.u,.int .i64 M.x,.int .i64 M.t,.int .i64 M.n,.slice E.a E.n E.c,.slice L.a L.n L.c,.slice N.a N.n N.c,.slice O.a O.n O.c] 27)).alloc (.cells #[.int .i64 M.r,.int .i64 M.s,.slice La.a La.n La.c] 30)).alloc (.cells #[.int .i64 0] 35)) (w.heap.size+1+1) #[.int .i64 0]:=Blk.new_at 35 ((w.alloc _).alloc _) _ _ (by simp)
 obtain⟨c0,c1,c2,c3,c4,c5,c6,c7,c8,c9,c10,c11⟩:=q1.c12
 obtain⟨s0,s1,s2⟩:=q2.c3
 have k29:=checked_ok M E L N O Y U D La Ya (((w.alloc (.cells #[.int .i64 M.d,.int .i64 M.h,.int .i64 M.l,.int .i64 M.v,.int .i64 M.u,.int .i64 M.x,.int .i64 M.t,.int .i64 M.n,.slice E.a E.n E.c,.slice L.a L.n L.c,.slice N.a N.n N.c,.slice O.a O.n O.c] 27)).alloc (.cells #[.int .i64 M.r,.int .i64 M.s,.slice La.a La.n La.c] 30)).alloc (.cells #[.int .i64 0] 35)) (hM.below hb0) (hA.below hb0) hE
 go_enter_defers Tryz.func21,Tryz.ntmps21
 go_wp2_with (first
  | (go_at_call 29;refine k29.mono ?_;rintro e W1 ⟨rfl,h1⟩;clear k29;have hb1:=bTn hb0 h1;have Q1:=hdn (q1.kept h1);have Q2:=hdn (q2.kept h1);have Q3:=hdn (q3.kept h1);obtain⟨d0,d1,d2,d3,d4,d5,d6,d7,d8,d9,d10,d11⟩:=Q1.out.c12;obtain⟨t0,t1,t2⟩:=Q2.out.c3;obtain⟨o0,o1,o2,o3,o4,o5,o6,o7,o8,o9,o10,o11⟩:=Q1.out.o12;obtain⟨u0,u1,u2⟩:=Q2.out.o3;have E0:=set_same d0;have E1:=set_same d1;have E2:=set_same d2;have E3:=set_same d3;have E4:=set_same d4;have E5:=set_same d5;have E6:=set_same d6;have E7:=set_same d7;have E8:=set_same d8;have E9:=set_same d9;have E10:=set_same d10;have E11:=set_same d11;have F0:=set_same t0;have F1:=set_same t1;have F2:=set_same t2;clear h1 hb0 q1 q2 q3 c0 c1 c2 c3 c4 c5 c6 c7 c8 c9 c10 c11 s0 s1 s2)
  | (go_at_call 44;refine (k _ hb1).mono ?_;rintro e W2 ⟨⟨a9,m9,c9,b9,j9,k9,rfl,yy⟩,h2⟩;have hb2:=bTn hb1 h2;have z1:=(Q3.out.kept h2).cell 0 (v:=.int .i64 0) rfl;have z2:=(Q3.out.kept h2).open_ 0;have H:=hdn (And.intro yy hb2);clear h2 yy hb2 k))
 refine leaves_cons (f:=43) (args:=#[.pointer (some ⟨w.heap.size+1+1,0,none⟩)]) (by simp) (by simp[go_sem]) ?_
 rw[set_same z1]
 refine (catch_idle43 ⟨w.heap.size+1+1,0,none⟩ 0 _ z1 z2).mono ?_
 rintro e u' w'' ⟨rfl,rfl,rfl⟩
 rw[set_same z1]
 simp[Leaves,settle,results,Tryz.results21,go_sem,z1]
 exact⟨⟨a9,m9,c9,b9,j9,k9,⟨⟨rfl,rfl,rfl⟩,⟨rfl,rfl,rfl⟩⟩,H.out.1⟩,H.out.2⟩
theorem Run_inner (M:Md)(E L N O:SL)(Y U D:Nat→Nat→SL)(La:SL)(Ya:Nat→Nat→SL)(w:World)(hM:ModAt w E L N O Y U D M.m)(hA:AdAt w La Ya M.a)(ta:Option Addr)(n tc:Nat)(RP:World→Option Addr→Nat→Nat→Option Addr→Nat→Nat→Prop)(n9:Int)(hE:badE M=0)(k:∀ W,Below w.heap.size w W→Calls Tryz.prog 44 #[.agg #[.int .i64 M.d,.int .i64 M.h,.int .i64 M.l,.int .i64 M.v,.int .i64 M.u,.int .i64 M.x,.int .i64 M.t,.int .i64 M.n,.slice E.a E.n E.c,.slice L.a L.n L.c,.slice N.a N.n N.c,.slice O.a O.n O.c],.agg #[.int .i64 M.r,.int .i64 M.s,.slice La.a La.n La.c],.slice ta n tc] W fun e w'=>e=.panicked [{ v:=.iface 35 (.int .i64 n9),recovered:=false }]∧Below W.heap.size W w') :
  Calls Tryz.prog 21 #[.agg #[.int .i64 M.d,.int .i64 M.h,.int .i64 M.l,.int .i64 M.v,.int .i64 M.u,.int .i64 M.x,.int .i64 M.t,.int .i64 M.n,.slice E.a E.n E.c,.slice L.a L.n L.c,.slice N.a N.n N.c,.slice O.a O.n O.c],.agg #[.int .i64 M.r,.int .i64 M.s,.slice La.a La.n La.c],.slice ta n tc] w fun e w'=>e=.returned (.tuple #[.slice none 0 0,.slice none 0 0,.int .i64 n9])∧Below w.heap.size w w':=by
 have hmf:∀ (fn:Fn) (first cap:Array Value) (w:World),(Instr.makeFunc fn first cap).run Tryz.prog w=.ok (.func fn first cap) w:=fun _ _ _ _=>rfl
 have hb0:=bNw (bNw (bNw (Below.refl w.heap.size w) (.cells #[.int .i64 M.d,.int .i64 M.h,.int .i64 M.l,.int .i64 M.v,.int .i64 M.u,.int .i64 M.x,.int .i64 M.t,.int .i64 M.n,.slice E.a E.n E.c,.slice L.a L.n L.c,.slice N.a N.n N.c,.slice O.a O.n O.c] 27)) (.cells #[.int .i64 M.r,.int .i64 M.s,.slice La.a La.n La.c] 30)) (.cells #[.int .i64 0] 35)
 have q1:Blk 27 (((w.alloc (.cells #[.int .i64 M.d,.int .i64 M.h,.int .i64 M.l,.int .i64 M.v,.int .i64 M.u,.int .i64 M.x,.int .i64 M.t,.int .i64 M.n,.slice E.a E.n E.c,.slice L.a L.n L.c,.slice N.a N.n N.c,.slice O.a O.n O.c] 27)).alloc (.cells #[.int .i64 M.r,.int .i64 M.s,.slice La.a La.n La.c] 30)).alloc (.cells #[.int .i64 0] 35)) w.heap.size #[.int .i64 M.d,.int .i64 M.h,.int .i64 M.l,.int .i64 M.v,.int .i64 M.u,.int .i64 M.x,.int .i64 M.t,.int .i64 M.n,.slice E.a E.n E.c,.slice L.a L.n L.c,.slice N.a N.n N.c,.slice O.a O.n O.c]:=(Blk.new 27 w _).kept (bNw (bNw (Below.refl _ _) _) _)
 have q2:Blk 30 (((w.alloc (.cells #[.int .i64 M.d,.int .i64 M.h,.int .i64 M.l,.int .i64 M.v,.int .i64 M.u,.int .i64 M.x,.int .i64 M.t,.int .i64 M.n,.slice E.a E.n E.c,.slice L.a L.n L.c,.slice N.a N.n N.c,.slice O.a O.n O.c] 27)).alloc (.cells #[.int .i64 M.r,.int .i64 M.s,.slice La.a La.n La.c] 30)).alloc (.cells #[.int .i64 0] 35)) (w.heap.size+1) #[.int .i64 M.r,.int .i64 M.s,.slice La.a La.n La.c]:=(Blk.new_at 30 (w.alloc _) _ _ (by simp)).kept (bNw (Below.refl _ _) _)
 have q3:Blk 35 (((w.alloc (.cells #[.int .i64 M.d,.int .i64 M.h,.int .i64 M.l,.int .i64 M.v,.int .i64 M.u,.int .i64 M.x,.int .i64 M.t,.int .i64 M.n,.slice E.a E.n E.c,.slice L.a L.n L.c,.slice N.a N.n N.c,.slice O.a O.n O.c] 27)).alloc (.cells #[.int .i64 M.r,.int .i64 M.s,.slice La.a La.n La.c] 30)).alloc (.cells #[.int .i64 0] 35)) (w.heap.size+1+1) #[.int .i64 0]:=Blk.new_at 35 ((w.alloc _).alloc _) _ _ (by simp)
 obtain⟨c0,c1,c2,c3,c4,c5,c6,c7,c8,c9,c10,c11⟩:=q1.c12
 obtain⟨s0,s1,s2⟩:=q2.c3
 have k29:=checked_ok M E L N O Y U D La Ya (((w.alloc (.cells #[.int .i64 M.d,.int .i64 M.h,.int .i64 M.l,.int .i64 M.v,.int .i64 M.u,.int .i64 M.x,.int .i64 M.t,.int .i64 M.n,.slice E.a E.n E.c,.slice L.a L.n L.c,.slice N.a N.n N.c,.slice O.a O.n O.c] 27)).alloc (.cells #[.int .i64 M.r,.int .i64 M.s,.slice La.a La.n La.c] 30)).alloc (.cells #[.int .i64 0] 35)) (hM.below hb0) (hA.below hb0) hE
 go_enter_defers Tryz.func21,Tryz.ntmps21
 go_wp2_with (first
  | (go_at_call 29;refine k29.mono ?_;rintro e W1 ⟨rfl,h1⟩;clear k29;have hb1:=bTn hb0 h1;have Q1:=hdn (q1.kept h1);have Q2:=hdn (q2.kept h1);have Q3:=hdn (q3.kept h1);obtain⟨d0,d1,d2,d3,d4,d5,d6,d7,d8,d9,d10,d11⟩:=Q1.out.c12;obtain⟨t0,t1,t2⟩:=Q2.out.c3;obtain⟨o0,o1,o2,o3,o4,o5,o6,o7,o8,o9,o10,o11⟩:=Q1.out.o12;obtain⟨u0,u1,u2⟩:=Q2.out.o3;have E0:=set_same d0;have E1:=set_same d1;have E2:=set_same d2;have E3:=set_same d3;have E4:=set_same d4;have E5:=set_same d5;have E6:=set_same d6;have E7:=set_same d7;have E8:=set_same d8;have E9:=set_same d9;have E10:=set_same d10;have E11:=set_same d11;have F0:=set_same t0;have F1:=set_same t1;have F2:=set_same t2;clear h1 hb0 q1 q2 q3 c0 c1 c2 c3 c4 c5 c6 c7 c8 c9 c10 c11 s0 s1 s2)
  | (go_at_call 44;refine (k _ hb1).mono ?_;rintro e W2 ⟨rfl,h2⟩;have hb2:=bTn hb1 h2;have z1:=(Q3.out.kept h2).cell 0 (v:=.int .i64 0) rfl;have z2:=(Q3.out.kept h2).open_ 0;clear h2 k))
 refine leaves_cons (f:=43) (args:=#[.pointer (some ⟨w.heap.size+1+1,0,none⟩)]) (by simp) (by simp[go_sem]) ?_
 refine (catch_panic43 ⟨w.heap.size+1+1,0,none⟩ 0 n9 [] _ z1 z2).mono ?_
 rintro e u' w'' ⟨rfl,rfl,rfl⟩
 have z3:(W2.setCell ⟨w.heap.size+1+1,0,none⟩ (.int .i64 n9)).cell? ⟨w.heap.size+1+1,0,none⟩=some (.int .i64 n9):=World.cell?_setCell_same _ _ _ z1
 have H':Below w.heap.size w (W2.setCell ⟨w.heap.size+1+1,0,none⟩ (.int .i64 n9)):=hb2.setCell (by show w.heap.size≤w.heap.size+1+1;omega) _
 generalize (W2.setCell ⟨w.heap.size+1+1,0,none⟩ (.int .i64 n9))=W9 at z3 H' ⊢
 simp[Leaves,settle,results,Tryz.results21,go_sem,z3]
 exact H'
end
section
theorem Step_ok (M:Md)(E L N O:SL)(Y U D:Nat→Nat→SL)(La:SL)(Ya:Nat→Nat→SL)(w:World)(hM:ModAt w E L N O Y U D M.m)(hA:AdAt w La Ya M.a)(pa:Option Addr)(n pc:Nat)(p tok:Int)(RP:World→Option Addr→Nat→Nat→Option Addr→Nat→Nat→Prop)(hE:badE M=0)(k:∀ W,Below w.heap.size w W→Calls Tryz.prog 30 #[.agg #[.int .i64 M.d,.int .i64 M.h,.int .i64 M.l,.int .i64 M.v,.int .i64 M.u,.int .i64 M.x,.int .i64 M.t,.int .i64 M.n,.slice E.a E.n E.c,.slice L.a L.n L.c,.slice N.a N.n N.c,.slice O.a O.n O.c],.agg #[.int .i64 M.r,.int .i64 M.s,.slice La.a La.n La.c],.slice pa n pc,.int .i64 p,.int .i64 tok] W fun e w'=>(∃ a m c b j k,e=.returned (.tuple #[.slice a m c,.slice b j k])∧RP w' a m c b j k)∧Below W.heap.size W w') :
  Calls Tryz.prog 11 #[.agg #[.int .i64 M.d,.int .i64 M.h,.int .i64 M.l,.int .i64 M.v,.int .i64 M.u,.int .i64 M.x,.int .i64 M.t,.int .i64 M.n,.slice E.a E.n E.c,.slice L.a L.n L.c,.slice N.a N.n N.c,.slice O.a O.n O.c],.agg #[.int .i64 M.r,.int .i64 M.s,.slice La.a La.n La.c],.slice pa n pc,.int .i64 p,.int .i64 tok] w fun e w'=>(∃ a m c b j k,e=.returned (.tuple #[.slice a m c,.slice b j k,.int .i64 0])∧RP w' a m c b j k)∧Below w.heap.size w w':=by
 have hmf:∀ (fn:Fn) (first cap:Array Value) (w:World),(Instr.makeFunc fn first cap).run Tryz.prog w=.ok (.func fn first cap) w:=fun _ _ _ _=>rfl
 have hb0:=bNw (bNw (bNw (Below.refl w.heap.size w) (.cells #[.int .i64 M.d,.int .i64 M.h,.int .i64 M.l,.int .i64 M.v,.int .i64 M.u,.int .i64 M.x,.int .i64 M.t,.int .i64 M.n,.slice E.a E.n E.c,.slice L.a L.n L.c,.slice N.a N.n N.c,.slice O.a O.n O.c] 27)) (.cells #[.int .i64 M.r,.int .i64 M.s,.slice La.a La.n La.c] 30)) (.cells #[.int .i64 0] 35)
 have q1:Blk 27 (((w.alloc (.cells #[.int .i64 M.d,.int .i64 M.h,.int .i64 M.l,.int .i64 M.v,.int .i64 M.u,.int .i64 M.x,.int .i64 M.t,.int .i64 M.n,.slice E.a E.n E.c,.slice L.a L.n L.c,.slice N.a N.n N.c,.slice O.a O.n O.c] 27)).alloc (.cells #[.int .i64 M.r,.int .i64 M.s,.slice La.a La.n La.c] 30)).alloc (.cells #[.int .i64 0] 35)) w.heap.size #[.int .i64 M.d,.int .i64 M.h,.int .i64 M.l,.int .i64 M.v,.int .i64 M.u,.int .i64 M.x,.int .i64 M.t,.int .i64 M.n,.slice E.a E.n E.c,.slice L.a L.n L.c,.slice N.a N.n N.c,.slice O.a O.n O.c]:=(Blk.new 27 w _).kept (bNw (bNw (Below.refl _ _) _) _)
 have q2:Blk 30 (((w.alloc (.cells #[.int .i64 M.d,.int .i64 M.h,.int .i64 M.l,.int .i64 M.v,.int .i64 M.u,.int .i64 M.x,.int .i64 M.t,.int .i64 M.n,.slice E.a E.n E.c,.slice L.a L.n L.c,.slice N.a N.n N.c,.slice O.a O.n O.c] 27)).alloc (.cells #[.int .i64 M.r,.int .i64 M.s,.slice La.a La.n La.c] 30)).alloc (.cells #[.int .i64 0] 35)) (w.heap.size+1) #[.int .i64 M.r,.int .i64 M.s,.slice La.a La.n La.c]:=(Blk.new_at 30 (w.alloc _) _ _ (by simp)).kept (bNw (Below.refl _ _) _)
 have q3:Blk 35 (((w.alloc (.cells #[.int .i64 M.d,.int .i64 M.h,.int .i64 M.l,.int .i64 M.v,.int .i64 M.u,.int .i64 M.x,.int .i64 M.t,.int .i64 M.n,.slice E.a E.n E.c,.slice L.a L.n L.c,.slice N.a N.n N.c,.slice O.a O.n O.c] 27)).alloc (.cells #[.int .i64 M.r,.int .i64 M.s,.slice La.a La.n La.c] 30)).alloc (.cells #[.int .i64 0] 35)) (w.heap.size+1+1) #[.int .i64 0]:=Blk.new_at 35 ((w.alloc _).alloc _) _ _ (by simp)
 obtain⟨c0,c1,c2,c3,c4,c5,c6,c7,c8,c9,c10,c11⟩:=q1.c12
 obtain⟨s0,s1,s2⟩:=q2.c3
 have k29:=checked_ok M E L N O Y U D La Ya (((w.alloc (.cells #[.int .i64 M.d,.int .i64 M.h,.int .i64 M.l,.int .i64 M.v,.int .i64 M.u,.int .i64 M.x,.int .i64 M.t,.int .i64 M.n,.slice E.a E.n E.c,.slice L.a L.n L.c,.slice N.a N.n N.c,.slice O.a O.n O.c] 27)).alloc (.cells #[.int .i64 M.r,.int .i64 M.s,.slice La.a La.n La.c] 30)).alloc (.cells #[.int .i64 0] 35)) (hM.below hb0) (hA.below hb0) hE
 go_enter_defers Tryz.func11,Tryz.ntmps11
 go_wp2_with (first
  | (go_at_call 29;refine k29.mono ?_;rintro e W1 ⟨rfl,h1⟩;clear k29;have hb1:=bTn hb0 h1;have Q1:=hdn (q1.kept h1);have Q2:=hdn (q2.kept h1);have Q3:=hdn (q3.kept h1);obtain⟨d0,d1,d2,d3,d4,d5,d6,d7,d8,d9,d10,d11⟩:=Q1.out.c12;obtain⟨t0,t1,t2⟩:=Q2.out.c3;obtain⟨o0,o1,o2,o3,o4,o5,o6,o7,o8,o9,o10,o11⟩:=Q1.out.o12;obtain⟨u0,u1,u2⟩:=Q2.out.o3;have E0:=set_same d0;have E1:=set_same d1;have E2:=set_same d2;have E3:=set_same d3;have E4:=set_same d4;have E5:=set_same d5;have E6:=set_same d6;have E7:=set_same d7;have E8:=set_same d8;have E9:=set_same d9;have E10:=set_same d10;have E11:=set_same d11;have F0:=set_same t0;have F1:=set_same t1;have F2:=set_same t2;clear h1 hb0 q1 q2 q3 c0 c1 c2 c3 c4 c5 c6 c7 c8 c9 c10 c11 s0 s1 s2)
  | (go_at_call 30;refine (k _ hb1).mono ?_;rintro e W2 ⟨⟨a9,m9,c9,b9,j9,k9,rfl,yy⟩,h2⟩;have hb2:=bTn hb1 h2;have z1:=(Q3.out.kept h2).cell 0 (v:=.int .i64 0) rfl;have z2:=(Q3.out.kept h2).open_ 0;have H:=hdn (And.intro yy hb2);clear h2 yy hb2 k))
 refine leaves_cons (f:=27) (args:=#[.pointer (some ⟨w.heap.size+1+1,0,none⟩)]) (by simp) (by simp[go_sem]) ?_
 rw[set_same z1]
 refine (catch_idle27 ⟨w.heap.size+1+1,0,none⟩ 0 _ z1 z2).mono ?_
 rintro e u' w'' ⟨rfl,rfl,rfl⟩
 rw[set_same z1]
 simp[Leaves,settle,results,Tryz.results11,go_sem,z1]
 exact⟨⟨a9,m9,c9,b9,j9,k9,⟨⟨rfl,rfl,rfl⟩,⟨rfl,rfl,rfl⟩⟩,H.out.1⟩,H.out.2⟩
end
section
def fw11D (i:Nat):Option Nat:=match i with|0=>some 64|1=>some 65|2=>some 66|3=>some 67|4=>some 68|5=>some 69|6=>some 70|7=>some 63|8=>some 71|9=>some 72|10=>some 73|11=>some 12|12=>some 13|13=>some 14|_=>none
theorem fw11D_inj:∀ i,i<14→∀ j,j<14→fw11D i=fw11D j→fw11D i≠none→i=j:=by decide
theorem fw11D_lt:∀ i,i<14→∀ d,fw11D i=some d→d<111:=by
 intro i hi d h
 have:∀ i,i<14→(fw11D i).all (fun d=>decide (d<111))=true:=by decide
 have:=this i hi
 rw[h] at this
 simpa using this
def fw11F (M:Md)(E L N O La:SL)(kb mb ab tn tc nn:Nat)(ta:Option Addr)(ee:Int)(RA RB:World→Option Addr→Nat→Prop)(i:Nat)(q:Value)(w:World):Prop:=match i with
 | 0=>q=.agg #[.int .i64 M.d,.int .i64 M.h,.int .i64 M.l,.int .i64 M.v,.int .i64 M.u,.int .i64 M.x,.int .i64 M.t,.int .i64 M.n,.slice E.a E.n E.c,.slice L.a L.n L.c,.slice N.a N.n N.c,.slice O.a O.n O.c]
 | 1=>q=.agg #[.int .i64 M.r,.int .i64 M.s,.slice La.a La.n La.c]
 | 2=>q=.pointer (some ⟨kb,10,none⟩)
 | 3=>q=.slice ta tn tc
 | 4=>q=.int .i64 (nn:Int)
 | 5=>q=.slice ta nn tc
 | 6=>∃ ya yc yb yd,q=.tuple #[.slice ya nn yc,.slice yb nn yd,.int .i64 ee]∧RA w ya yc∧RB w yb yd
 | 7=>∃ ya yc yb yd,q=.tuple #[.slice ya nn yc,.slice yb nn yd,.int .i64 ee]∧RA w ya yc∧RB w yb yd
 | 8=>∃ ya yc,q=.slice ya nn yc∧RA w ya yc
 | 9=>∃ ya yc,q=.slice ya nn yc∧RB w ya yc
 | 10=>q=.int .i64 ee
 | 11=>∃ ya yc,q=.slice ya nn yc∧RA w ya yc
 | 12=>∃ ya yc,q=.slice ya nn yc∧RB w ya yc
 | 13=>q=.int .i64 ee
 | _=>True
theorem fw11F_below {M:Md}{E L N O La:SL}{kb mb ab tn tc nn:Nat}{ta:Option Addr}{ee:Int}{RA RB:World→Option Addr→Nat→Prop}{i:Nat}{q:Value}{w w':World}(h:fw11F M E L N O La kb mb ab tn tc nn ta ee RA RB i q w)(hb:Below w.heap.size w w')(hRA:∀ {w w':World}{a:Option Addr}{c:Nat},RA w a c→Below w.heap.size w w'→RA w' a c)(hRB:∀ {w w':World}{a:Option Addr}{c:Nat},RB w a c→Below w.heap.size w w'→RB w' a c):fw11F M E L N O La kb mb ab tn tc nn ta ee RA RB i q w':=by
 unfold fw11F at h ⊢
 split
 ·exact h
 ·exact h
 ·exact h
 ·exact h
 ·exact h
 ·exact h
 ·obtain⟨ya,yc,yb,yd,h1,h2,h3⟩:=h;exact⟨ya,yc,yb,yd,h1,hRA h2 hb,hRB h3 hb⟩
 ·obtain⟨ya,yc,yb,yd,h1,h2,h3⟩:=h;exact⟨ya,yc,yb,yd,h1,hRA h2 hb,hRB h3 hb⟩
 ·obtain⟨ya,yc,h1,h2⟩:=h;exact⟨ya,yc,h1,hRA h2 hb⟩
 ·obtain⟨ya,yc,h1,h2⟩:=h;exact⟨ya,yc,h1,hRB h2 hb⟩
 ·exact h
 ·obtain⟨ya,yc,h1,h2⟩:=h;exact⟨ya,yc,h1,hRA h2 hb⟩
 ·obtain⟨ya,yc,h1,h2⟩:=h;exact⟨ya,yc,h1,hRB h2 hb⟩
 ·exact h
 ·trivial
theorem fw11_region {id:Nat}{ops:Array Oper}{Q:Exit→Act→World→Prop}{a0:Act}{w0:World}(M:Md)(E L N O La:SL)(kb mb ab tn tc nn:Nat)(ta:Option Addr)(ee:Int)(RA RB:World→Option Addr→Nat→Prop)(S:World→Prop)(hRA:∀ {w w':World}{a:Option Addr}{c:Nat},RA w a c→Below w.heap.size w w'→RA w' a c)(hRB:∀ {w w':World}{a:Option Addr}{c:Nat},RB w a c→Below w.heap.size w w'→RB w' a c)(hlow:lowB ops=true)(hsz:ops.size=14)
  (o0:OpIn ops 0 (some 64) (.load 27 (.tmp 5)) none []) (o1:OpIn ops 1 (some 65) (.load 30 (.tmp 7)) none []) (o2:OpIn ops 2 (some 66) (.fieldAddr 47 (.tmp 2) 3) none []) (o3:OpIn ops 3 (some 67) (.load 45 (.tmp 66)) none [2]) (o4:OpIn ops 4 (some 68) (.move (.tmp 8)) none []) (o5:OpIn ops 5 (some 69) (.slice 45 (.tmp 67) none (some (.tmp 68)) none) none [3,4]) (o6:OpIn ops 6 (some 70) (.call { callee:=.value (.func 21),args:=#[.tmp 64,.tmp 65,.tmp 69],argTypes:=#[27,30,45] }) none [0,1,5]) (o7:OpIn ops 7 (some 63) (.move (.tmp 70)) none [6]) (o8:OpIn ops 8 (some 71) (.extract (.tmp 63) 0) none [7]) (o9:OpIn ops 9 (some 72) (.extract (.tmp 63) 1) none [7]) (o10:OpIn ops 10 (some 73) (.extract (.tmp 63) 2) none [7]) (o11:OpIn ops 11 (some 12) (.assign (.tmp 71)) none [8]) (o12:OpIn ops 12 (some 13) (.assign (.tmp 72)) none [9]) (o13:OpIn ops 13 (some 14) (.assign (.tmp 73)) none [10])
  (hS:S w0.drew)
  (x0:∀ w,S w→(Instr.loadAt 27 (.pointer (some ⟨mb,0,none⟩))).run Tryz.prog w=.ok (.agg #[.int .i64 M.d,.int .i64 M.h,.int .i64 M.l,.int .i64 M.v,.int .i64 M.u,.int .i64 M.x,.int .i64 M.t,.int .i64 M.n,.slice E.a E.n E.c,.slice L.a L.n L.c,.slice N.a N.n N.c,.slice O.a O.n O.c]) w)
  (x1:∀ w,S w→(Instr.loadAt 30 (.pointer (some ⟨ab,0,none⟩))).run Tryz.prog w=.ok (.agg #[.int .i64 M.r,.int .i64 M.s,.slice La.a La.n La.c]) w)
  (x2:∀ w,(Instr.fieldAt 47 (.pointer (some ⟨kb,0,none⟩)) 3).run Tryz.prog w=.ok (.pointer (some ⟨kb,10,none⟩)) w)
  (x3:∀ w,S w→(Instr.loadAt 45 (.pointer (some ⟨kb,10,none⟩))).run Tryz.prog w=.ok (.slice ta tn tc) w)
  (x5:∀ w,(Instr.sliceAt 45 (.slice ta tn tc) none (some (.int .i64 (nn:Int))) none).run Tryz.prog w=.ok (.slice ta nn tc) w)
  (x6:∀ w,S w→Calls Tryz.prog 21 #[.agg #[.int .i64 M.d,.int .i64 M.h,.int .i64 M.l,.int .i64 M.v,.int .i64 M.u,.int .i64 M.x,.int .i64 M.t,.int .i64 M.n,.slice E.a E.n E.c,.slice L.a L.n L.c,.slice N.a N.n N.c,.slice O.a O.n O.c],.agg #[.int .i64 M.r,.int .i64 M.s,.slice La.a La.n La.c],.slice ta nn tc] w fun e w'=>(∃ ya yc yb yd,e=.returned (.tuple #[.slice ya nn yc,.slice yb nn yd,.int .i64 ee])∧RA w' ya yc∧RB w' yb yd)∧Below w.heap.size w w'∧S w')
  (u2:a0.tmps.getD 2 undef=.pointer (some ⟨kb,0,none⟩))
  (u5:a0.tmps.getD 5 undef=.pointer (some ⟨mb,0,none⟩))
  (u7:a0.tmps.getD 7 undef=.pointer (some ⟨ab,0,none⟩))
  (u8:a0.tmps.getD 8 undef=.int .i64 (nn:Int))
  (hs:111≤a0.tmps.size)
  (fin:∀ a w,a.tmps.size=a0.tmps.size→a.defers=a0.defers→(∀ s,(∀ i,i<14→fw11D i≠some s)→a.tmps.getD s undef=a0.tmps.getD s undef)→S w→(∀ i d,i<14→fw11D i=some d→fw11F M E L N O La kb mb ab tn tc nn ta ee RA RB i (a.tmps.getD d undef) w)→Q .normal a w):(Code.region id ops true).wp Tryz.prog Q a0 w0:=by
 have r21:∀ args w,(callFunc 21 args).run Tryz.prog w=.ok (.enter 21 args) w:=eNo Tryz.func21 (by kernel_rfl) rfl
 refine wp_region_inv2 (by kernel_rfl) hlow (Inv 14 fw11D a0 (fun l a w=>S w∧Kept2 14 fw11D a0 l a) (fun _=>fw11F M E L N O La kb mb ab tn tc nn ta ee RA RB)) (Inv.start ⟨hS,kept2_start _ _ _⟩) ?_ ?_
 ·intro l i o a w ho hl hcl hdep hI
  have hi:i<14:=by rw[←hsz];exact (Array.getElem?_eq_some_iff.1 ho).1
  have ev:∀ (s:Nat),a.eval (.tmp s)=a.tmps.getD s undef:=fun _=>rfl
  have evf:∀ f,a.eval (.func f)=.func (.func f) #[] #[]:=fun _=>rfl
  have evc:∀ c:Value,a.eval (.const c)=c:=fun _=>rfl
  have inj:∀ d,fw11D i=some d→∀ j d',j<14→fw11D j=some d'→j≠i→d'≠d:=fun d hd j d' hj hd' hne e=>hne (fw11D_inj j hj i hi (by rw[hd',hd,e]) (by rw[hd'];simp))
  have kp:∀ s,(∀ i,i<14→fw11D i≠some s)→a.tmps.getD s undef=a0.tmps.getD s undef:=hI.kept
  have hw:S w:=hI.world.1
  have k2:=hI.world.2
  have ex0:=hI.world.2
  have go:∀ {d:Nat}{v:Value}{w':World},fw11D i=some d→Below w.heap.size w w'→S w'→fw11F M E L N O La kb mb ab tn tc nn ta ee RA RB i v w'→Inv 14 fw11D a0 (fun l a w=>S w∧Kept2 14 fw11D a0 l a) (fun _=>fw11F M E L N O La kb mb ab tn tc nn ta ee RA RB) (fun j=>l j || j==i) (a.put (some d) v) w':=by
   intro d v w' hD hb hS' hF
   exact hI.put hi hD (Nat.lt_of_lt_of_le (fw11D_lt i hi d hD) hs) (inj d hD) ⟨hS',k2.put hD (by rw[hI.size];exact Nat.lt_of_lt_of_le (fw11D_lt i hi d hD) hs) hi⟩ hF (fun j u _ _ _ hf=>fw11F_below hf hb hRA hRB)
  rcases (show i=0∨i=1∨i=2∨i=3∨i=4∨i=5∨i=6∨i=7∨i=8∨i=9∨i=10∨i=11∨i=12∨i=13 by omega) with rfl|rfl|rfl|rfl|rfl|rfl|rfl|rfl|rfl|rfl|rfl|rfl|rfl|rfl
  ·obtain⟨o',e1,e2,e3,e4,e5⟩:=o0
   obtain rfl:=sOp ho e1
   have dp:=dPo e5 hdep
   have U5:a.tmps.getD 5 undef=.pointer (some ⟨mb,0,none⟩):=(kp 5 (by decide)).trans u5
   exact wVa (v:=.agg #[.int .i64 M.d,.int .i64 M.h,.int .i64 M.l,.int .i64 M.v,.int .i64 M.u,.int .i64 M.x,.int .i64 M.t,.int .i64 M.n,.slice E.a E.n E.c,.slice L.a L.n L.c,.slice N.a N.n N.c,.slice O.a O.n O.c]) (w':=w) ho e4 (by simp[execOp,e3,ev,evc,U5,x0 w hw]) (by rw[e2];exact go rfl (Below.refl _ _) hw rfl)
  ·obtain⟨o',e1,e2,e3,e4,e5⟩:=o1
   obtain rfl:=sOp ho e1
   have dp:=dPo e5 hdep
   have U7:a.tmps.getD 7 undef=.pointer (some ⟨ab,0,none⟩):=(kp 7 (by decide)).trans u7
   exact wVa (v:=.agg #[.int .i64 M.r,.int .i64 M.s,.slice La.a La.n La.c]) (w':=w) ho e4 (by simp[execOp,e3,ev,evc,U7,x1 w hw]) (by rw[e2];exact go rfl (Below.refl _ _) hw rfl)
  ·obtain⟨o',e1,e2,e3,e4,e5⟩:=o2
   obtain rfl:=sOp ho e1
   have dp:=dPo e5 hdep
   have U2:a.tmps.getD 2 undef=.pointer (some ⟨kb,0,none⟩):=(kp 2 (by decide)).trans u2
   exact wVa (v:=.pointer (some ⟨kb,10,none⟩)) (w':=w) ho e4 (by simp[execOp,e3,ev,evc,U2,x2 w]) (by rw[e2];exact go rfl (Below.refl _ _) hw rfl)
  ·obtain⟨o',e1,e2,e3,e4,e5⟩:=o3
   obtain rfl:=sOp ho e1
   have dp:=dPo e5 hdep
   have V2:a.tmps.getD 66 undef=.pointer (some ⟨kb,10,none⟩):=hI.val 2 66 (by decide) rfl (dp 2 (by decide))
   exact wVa (v:=.slice ta tn tc) (w':=w) ho e4 (by simp[execOp,e3,ev,evc,V2,x3 w hw]) (by rw[e2];exact go rfl (Below.refl _ _) hw rfl)
  ·obtain⟨o',e1,e2,e3,e4,e5⟩:=o4
   obtain rfl:=sOp ho e1
   have dp:=dPo e5 hdep
   have U8:a.tmps.getD 8 undef=.int .i64 (nn:Int):=(kp 8 (by decide)).trans u8
   exact wVa (v:=.int .i64 (nn:Int)) (w':=w) ho e4 (by simp[execOp,e3,ev,evc,U8]) (by rw[e2];exact go rfl (Below.refl _ _) hw rfl)
  ·obtain⟨o',e1,e2,e3,e4,e5⟩:=o5
   obtain rfl:=sOp ho e1
   have dp:=dPo e5 hdep
   have V3:a.tmps.getD 67 undef=.slice ta tn tc:=hI.val 3 67 (by decide) rfl (dp 3 (by decide))
   have V4:a.tmps.getD 68 undef=.int .i64 (nn:Int):=hI.val 4 68 (by decide) rfl (dp 4 (by decide))
   exact wVa (v:=.slice ta nn tc) (w':=w) ho e4 (by simp[execOp,e3,ev,evc,V3,V4,x5 w]) (by rw[e2];exact go rfl (Below.refl _ _) hw rfl)
  ·obtain⟨o',e1,e2,e3,e4,e5⟩:=o6
   obtain rfl:=sOp ho e1
   have dp:=dPo e5 hdep
   have V0:a.tmps.getD 64 undef=.agg #[.int .i64 M.d,.int .i64 M.h,.int .i64 M.l,.int .i64 M.v,.int .i64 M.u,.int .i64 M.x,.int .i64 M.t,.int .i64 M.n,.slice E.a E.n E.c,.slice L.a L.n L.c,.slice N.a N.n N.c,.slice O.a O.n O.c]:=hI.val 0 64 (by decide) rfl (dp 0 (by decide))
   have V1:a.tmps.getD 65 undef=.agg #[.int .i64 M.r,.int .i64 M.s,.slice La.a La.n La.c]:=hI.val 1 65 (by decide) rfl (dp 1 (by decide))
   have V5:a.tmps.getD 69 undef=.slice ta nn tc:=hI.val 5 69 (by decide) rfl (dp 5 (by decide))
   refine wCa (f:=21) (args:=#[.agg #[.int .i64 M.d,.int .i64 M.h,.int .i64 M.l,.int .i64 M.v,.int .i64 M.u,.int .i64 M.x,.int .i64 M.t,.int .i64 M.n,.slice E.a E.n E.c,.slice L.a L.n L.c,.slice N.a N.n N.c,.slice O.a O.n O.c],.agg #[.int .i64 M.r,.int .i64 M.s,.slice La.a La.n La.c],.slice ta nn tc]) ho e4 (by simp[execOp,e3,resolve,invoke,Deferred.ofValue,r21,ev,evf,evc,V0,V1,V5]) ((x6 w hw).mono ?_)
   rintro e W' ⟨⟨a6,c6,b6,d6,rfl,fa6,fb6⟩,hb6,hs6⟩
   refine⟨_,rfl,?_⟩
   rw[e2]
   exact go rfl hb6 hs6 ⟨a6,c6,b6,d6,rfl,fa6,fb6⟩
  ·obtain⟨o',e1,e2,e3,e4,e5⟩:=o7
   obtain rfl:=sOp ho e1
   have dp:=dPo e5 hdep
   obtain⟨a6,c6,b6,d6,V6,fa6,fb6⟩:∃ ya yc yb yd,a.tmps.getD 70 undef=.tuple #[.slice ya nn yc,.slice yb nn yd,.int .i64 ee]∧RA w ya yc∧RB w yb yd:=hI.val 6 70 (by decide) rfl (dp 6 (by decide))
   exact wVa (v:=.tuple #[.slice a6 nn c6,.slice b6 nn d6,.int .i64 ee]) (w':=w) ho e4 (by simp[execOp,e3,ev,evc,V6]) (by rw[e2];exact go rfl (Below.refl _ _) hw ⟨a6,c6,b6,d6,rfl,fa6,fb6⟩)
  ·obtain⟨o',e1,e2,e3,e4,e5⟩:=o8
   obtain rfl:=sOp ho e1
   have dp:=dPo e5 hdep
   obtain⟨a7,c7,b7,d7,V7,fa7,fb7⟩:∃ ya yc yb yd,a.tmps.getD 63 undef=.tuple #[.slice ya nn yc,.slice yb nn yd,.int .i64 ee]∧RA w ya yc∧RB w yb yd:=hI.val 7 63 (by decide) rfl (dp 7 (by decide))
   exact wVa (v:=.slice a7 nn c7) (w':=w) ho e4 (by simp[execOp,e3,ev,evc,V7,Instr.extract]) (by rw[e2];exact go rfl (Below.refl _ _) hw ⟨a7,c7,rfl,fa7⟩)
  ·obtain⟨o',e1,e2,e3,e4,e5⟩:=o9
   obtain rfl:=sOp ho e1
   have dp:=dPo e5 hdep
   obtain⟨a7,c7,b7,d7,V7,fa7,fb7⟩:∃ ya yc yb yd,a.tmps.getD 63 undef=.tuple #[.slice ya nn yc,.slice yb nn yd,.int .i64 ee]∧RA w ya yc∧RB w yb yd:=hI.val 7 63 (by decide) rfl (dp 7 (by decide))
   exact wVa (v:=.slice b7 nn d7) (w':=w) ho e4 (by simp[execOp,e3,ev,evc,V7,Instr.extract]) (by rw[e2];exact go rfl (Below.refl _ _) hw ⟨b7,d7,rfl,fb7⟩)
  ·obtain⟨o',e1,e2,e3,e4,e5⟩:=o10
   obtain rfl:=sOp ho e1
   have dp:=dPo e5 hdep
   obtain⟨a7,c7,b7,d7,V7,fa7,fb7⟩:∃ ya yc yb yd,a.tmps.getD 63 undef=.tuple #[.slice ya nn yc,.slice yb nn yd,.int .i64 ee]∧RA w ya yc∧RB w yb yd:=hI.val 7 63 (by decide) rfl (dp 7 (by decide))
   exact wVa (v:=.int .i64 ee) (w':=w) ho e4 (by simp[execOp,e3,ev,evc,V7,Instr.extract]) (by rw[e2];exact go rfl (Below.refl _ _) hw rfl)
  ·obtain⟨o',e1,e2,e3,e4,e5⟩:=o11
   obtain rfl:=sOp ho e1
   have dp:=dPo e5 hdep
   obtain⟨a8,c8,V8,f8⟩:∃ ya yc,a.tmps.getD 71 undef=.slice ya nn yc∧RA w ya yc:=hI.val 8 71 (by decide) rfl (dp 8 (by decide))
   exact wVa (v:=.slice a8 nn c8) (w':=w) ho e4 (by simp[execOp,e3,ev,evc,V8]) (by rw[e2];exact go rfl (Below.refl _ _) hw ⟨a8,c8,rfl,f8⟩)
  ·obtain⟨o',e1,e2,e3,e4,e5⟩:=o12
   obtain rfl:=sOp ho e1
   have dp:=dPo e5 hdep
   obtain⟨a9,c9,V9,f9⟩:∃ ya yc,a.tmps.getD 72 undef=.slice ya nn yc∧RB w ya yc:=hI.val 9 72 (by decide) rfl (dp 9 (by decide))
   exact wVa (v:=.slice a9 nn c9) (w':=w) ho e4 (by simp[execOp,e3,ev,evc,V9]) (by rw[e2];exact go rfl (Below.refl _ _) hw ⟨a9,c9,rfl,f9⟩)
  ·obtain⟨o',e1,e2,e3,e4,e5⟩:=o13
   obtain rfl:=sOp ho e1
   have dp:=dPo e5 hdep
   have V10:a.tmps.getD 73 undef=.int .i64 ee:=hI.val 10 73 (by decide) rfl (dp 10 (by decide))
   exact wVa (v:=.int .i64 ee) (w':=w) ho e4 (by simp[execOp,e3,ev,evc,V10]) (by rw[e2];exact go rfl (Below.refl _ _) hw rfl)
 ·intro l a w hall hI
  have all:∀ j,j<14→l j=true:=fun j hj=>hall j (by rw[hsz];exact hj)
  exact fin a w hI.size hI.defers hI.kept hI.world.1 (fun i d hi hD=>hI.val i d hi hD (all i hi))
end
end Go.Proofs.YthliomlmhfjhnaaGreat
