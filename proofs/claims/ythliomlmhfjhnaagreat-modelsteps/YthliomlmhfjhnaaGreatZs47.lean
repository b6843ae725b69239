/- Texts put together. -/
import Derived.Test.YthliomlmhfjhnaaGreatZs38
import Derived.Test.YthliomlmhfjhnaaGreatZs45
namespace Go.Proofs.YthliomlmhfjhnaaGreat
set_option maxRecDepth 20000
set_option maxHeartbeats 16000000
open Go.ChangeShapes Go.WideShapes Go.ChangeAt Go.RowKit
set_option linter.unusedVariables false
set_option linter.unusedSimpArgs false
theorem checked_bad (M:Md)(E L N O:SL)(Y U D:Nat→Nat→SL)(La:SL)(Ya:Nat→Nat→SL)(w:World)(hM:ModAt w E L N O Y U D M.m)(hE:¬checkB M.d M.h M.l M.v M.u M.x M.t M.n M.m=0) :
  Calls Tryz.prog 29 #[.agg #[.int .i64 M.d,.int .i64 M.h,.int .i64 M.l,.int .i64 M.v,.int .i64 M.u,.int .i64 M.x,.int .i64 M.t,.int .i64 M.n,.slice E.a E.n E.c,.slice L.a L.n L.c,.slice N.a N.n N.c,.slice O.a O.n O.c],.agg #[.int .i64 M.r,.int .i64 M.s,.slice La.a La.n La.c]] w fun e w'=>e=.panicked [{ v:=.iface 35 (.int .i64 (checkB M.d M.h M.l M.v M.u M.x M.t M.n M.m)),recovered:=false }]∧Below w.heap.size w w':=by
 have hb0:=bNw (bNw (bNw (bNw (Below.refl w.heap.size w) (.cells #[.int .i64 M.d,.int .i64 M.h,.int .i64 M.l,.int .i64 M.v,.int .i64 M.u,.int .i64 M.x,.int .i64 M.t,.int .i64 M.n,.slice E.a E.n E.c,.slice L.a L.n L.c,.slice N.a N.n N.c,.slice O.a O.n O.c] 27)) (.cells #[.int .i64 M.r,.int .i64 M.s,.slice La.a La.n La.c] 30)) (.cells #[.int .i64 0,.int .i64 0,.int .i64 0,.int .i64 0,.int .i64 0,.int .i64 0,.int .i64 0,.int .i64 0,.slice none 0 0,.slice none 0 0,.slice none 0 0,.slice none 0 0] 27)) (.cells #[.int .i64 0,.int .i64 0,.slice none 0 0] 30)
 have q1:Blk 27 ((((w.alloc (.cells #[.int .i64 M.d,.int .i64 M.h,.int .i64 M.l,.int .i64 M.v,.int .i64 M.u,.int .i64 M.x,.int .i64 M.t,.int .i64 M.n,.slice E.a E.n E.c,.slice L.a L.n L.c,.slice N.a N.n N.c,.slice O.a O.n O.c] 27)).alloc (.cells #[.int .i64 M.r,.int .i64 M.s,.slice La.a La.n La.c] 30)).alloc (.cells #[.int .i64 0,.int .i64 0,.int .i64 0,.int .i64 0,.int .i64 0,.int .i64 0,.int .i64 0,.int .i64 0,.slice none 0 0,.slice none 0 0,.slice none 0 0,.slice none 0 0] 27)).alloc (.cells #[.int .i64 0,.int .i64 0,.slice none 0 0] 30)) w.heap.size #[.int .i64 M.d,.int .i64 M.h,.int .i64 M.l,.int .i64 M.v,.int .i64 M.u,.int .i64 M.x,.int .i64 M.t,.int .i64 M.n,.slice E.a E.n E.c,.slice L.a L.n L.c,.slice N.a N.n N.c,.slice O.a O.n O.c]:=(Blk.new 27 w _).kept (bNw (bNw (bNw (Below.refl _ _) _) _) _)
 have q2:Blk 30 ((((w.alloc (.cells #[.int .i64 M.d,.int .i64 M.h,.int .i64 M.l,.int .i64 M.v,.int .i64 M.u,.int .i64 M.x,.int .i64 M.t,.int .i64 M.n,.slice E.a E.n E.c,.slice L.a L.n L.c,.slice N.a N.n N.c,.slice O.a O.n O.c] 27)).alloc (.cells #[.int .i64 M.r,.int .i64 M.s,.slice La.a La.n La.c] 30)).alloc (.cells #[.int .i64 0,.int .i64 0,.int .i64 0,.int .i64 0,.int .i64 0,.int .i64 0,.int .i64 0,.int .i64 0,.slice none 0 0,.slice none 0 0,.slice none 0 0,.slice none 0 0] 27)).alloc (.cells #[.int .i64 0,.int .i64 0,.slice none 0 0] 30)) (w.heap.size+1) #[.int .i64 M.r,.int .i64 M.s,.slice La.a La.n La.c]:=(Blk.new_at 30 (w.alloc _) _ _ (by simp)).kept (bNw (bNw (Below.refl _ _) _) _)
 have q3:Blk 27 ((((w.alloc (.cells #[.int .i64 M.d,.int .i64 M.h,.int .i64 M.l,.int .i64 M.v,.int .i64 M.u,.int .i64 M.x,.int .i64 M.t,.int .i64 M.n,.slice E.a E.n E.c,.slice L.a L.n L.c,.slice N.a N.n N.c,.slice O.a O.n O.c] 27)).alloc (.cells #[.int .i64 M.r,.int .i64 M.s,.slice La.a La.n La.c] 30)).alloc (.cells #[.int .i64 0,.int .i64 0,.int .i64 0,.int .i64 0,.int .i64 0,.int .i64 0,.int .i64 0,.int .i64 0,.slice none 0 0,.slice none 0 0,.slice none 0 0,.slice none 0 0] 27)).alloc (.cells #[.int .i64 0,.int .i64 0,.slice none 0 0] 30)) (w.heap.size+1+1) #[.int .i64 0,.int .i64 0,.int .i64 0,.int .i64 0,.int .i64 0,.int .i64 0,.int .i64 0,.int .i64 0,.slice none 0 0,.slice none 0 0,.slice none 0 0,.slice none 0 0]:=(Blk.new_at 27 ((w.alloc _).alloc _) _ _ (by simp)).kept (bNw (Below.refl _ _) _)
 have q4:Blk 30 ((((w.alloc (.cells #[.int .i64 M.d,.int .i64 M.h,.int .i64 M.l,.int .i64 M.v,.int .i64 M.u,.int .i64 M.x,.int .i64 M.t,.int .i64 M.n,.slice E.a E.n E.c,.slice L.a L.n L.c,.slice N.a N.n N.c,.slice O.a O.n O.c] 27)).alloc (.cells #[.int .i64 M.r,.int .i64 M.s,.slice La.a La.n La.c] 30)).alloc (.cells #[.int .i64 0,.int .i64 0,.int .i64 0,.int .i64 0,.int .i64 0,.int .i64 0,.int .i64 0,.int .i64 0,.slice none 0 0,.slice none 0 0,.slice none 0 0,.slice none 0 0] 27)).alloc (.cells #[.int .i64 0,.int .i64 0,.slice none 0 0] 30)) (w.heap.size+1+1+1) #[.int .i64 0,.int .i64 0,.slice none 0 0]:=Blk.new_at 30 (((w.alloc _).alloc _).alloc _) _ _ (by simp)
 have kc:=fun (W:World) (hb:Below w.heap.size w W)=>check_call M.d M.h M.l M.v M.u M.x M.t M.n E L N O Y U D M.m W (hM.below hb)
 obtain⟨c,ec⟩:∃ c,checkB M.d M.h M.l M.v M.u M.x M.t M.n M.m=c:=⟨_,rfl⟩
 rw[ec] at kc hE ⊢
 go_enter Tryz.func29,Tryz.ntmps29
 go_wp2
 refine cn_region M E L N O c w.heap.size _ q1 (by kernel_rfl) rfl ⟨_,rfl,rfl,rfl,rfl,by kernel_rfl⟩ ⟨_,rfl,rfl,rfl,rfl,by kernel_rfl⟩ ⟨_,rfl,rfl,rfl,rfl,by kernel_rfl⟩ ⟨_,rfl,rfl,rfl,rfl,by kernel_rfl⟩ ⟨_,rfl,rfl,rfl,rfl,by kernel_rfl⟩ rfl (fun W hb=>kc W (bTn hb0 hb)) (fun W=>mdmustM_no M.d M.h M.l M.v M.u M.x M.t M.n E L N O c hE W) (Nat.le_of_ble_eq_true rfl) ?_
 intro a W2 hd hkp hb2
 exact⟨hd,rfl,bTn hb0 hb2⟩
theorem checked_none (M:Md)(E L N O:SL)(Y U D:Nat→Nat→SL)(La:SL)(Ya:Nat→Nat→SL)(w:World)(hM:ModAt w E L N O Y U D M.m)(hE:checkB M.d M.h M.l M.v M.u M.x M.t M.n M.m=0)(hr0:M.r=0) :
  Calls Tryz.prog 29 #[.agg #[.int .i64 M.d,.int .i64 M.h,.int .i64 M.l,.int .i64 M.v,.int .i64 M.u,.int .i64 M.x,.int .i64 M.t,.int .i64 M.n,.slice E.a E.n E.c,.slice L.a L.n L.c,.slice N.a N.n N.c,.slice O.a O.n O.c],.agg #[.int .i64 M.r,.int .i64 M.s,.slice La.a La.n La.c]] w fun e w'=>e=.returned (.tuple #[.agg #[.int .i64 M.d,.int .i64 M.h,.int .i64 M.l,.int .i64 M.v,.int .i64 M.u,.int .i64 M.x,.int .i64 M.t,.int .i64 M.n,.slice E.a E.n E.c,.slice L.a L.n L.c,.slice N.a N.n N.c,.slice O.a O.n O.c],.agg #[.int .i64 M.r,.int .i64 M.s,.slice La.a La.n La.c]])∧Below w.heap.size w w':=by
 have hb0:=bNw (bNw (bNw (bNw (Below.refl w.heap.size w) (.cells #[.int .i64 M.d,.int .i64 M.h,.int .i64 M.l,.int .i64 M.v,.int .i64 M.u,.int .i64 M.x,.int .i64 M.t,.int .i64 M.n,.slice E.a E.n E.c,.slice L.a L.n L.c,.slice N.a N.n N.c,.slice O.a O.n O.c] 27)) (.cells #[.int .i64 M.r,.int .i64 M.s,.slice La.a La.n La.c] 30)) (.cells #[.int .i64 0,.int .i64 0,.int .i64 0,.int .i64 0,.int .i64 0,.int .i64 0,.int .i64 0,.int .i64 0,.slice none 0 0,.slice none 0 0,.slice none 0 0,.slice none 0 0] 27)) (.cells #[.int .i64 0,.int .i64 0,.slice none 0 0] 30)
 have q1:Blk 27 ((((w.alloc (.cells #[.int .i64 M.d,.int .i64 M.h,.int .i64 M.l,.int .i64 M.v,.int .i64 M.u,.int .i64 M.x,.int .i64 M.t,.int .i64 M.n,.slice E.a E.n E.c,.slice L.a L.n L.c,.slice N.a N.n N.c,.slice O.a O.n O.c] 27)).alloc (.cells #[.int .i64 M.r,.int .i64 M.s,.slice La.a La.n La.c] 30)).alloc (.cells #[.int .i64 0,.int .i64 0,.int .i64 0,.int .i64 0,.int .i64 0,.int .i64 0,.int .i64 0,.int .i64 0,.slice none 0 0,.slice none 0 0,.slice none 0 0,.slice none 0 0] 27)).alloc (.cells #[.int .i64 0,.int .i64 0,.slice none 0 0] 30)) w.heap.size #[.int .i64 M.d,.int .i64 M.h,.int .i64 M.l,.int .i64 M.v,.int .i64 M.u,.int .i64 M.x,.int .i64 M.t,.int .i64 M.n,.slice E.a E.n E.c,.slice L.a L.n L.c,.slice N.a N.n N.c,.slice O.a O.n O.c]:=(Blk.new 27 w _).kept (bNw (bNw (bNw (Below.refl _ _) _) _) _)
 have q2:Blk 30 ((((w.alloc (.cells #[.int .i64 M.d,.int .i64 M.h,.int .i64 M.l,.int .i64 M.v,.int .i64 M.u,.int .i64 M.x,.int .i64 M.t,.int .i64 M.n,.slice E.a E.n E.c,.slice L.a L.n L.c,.slice N.a N.n N.c,.slice O.a O.n O.c] 27)).alloc (.cells #[.int .i64 M.r,.int .i64 M.s,.slice La.a La.n La.c] 30)).alloc (.cells #[.int .i64 0,.int .i64 0,.int .i64 0,.int .i64 0,.int .i64 0,.int .i64 0,.int .i64 0,.int .i64 0,.slice none 0 0,.slice none 0 0,.slice none 0 0,.slice none 0 0] 27)).alloc (.cells #[.int .i64 0,.int .i64 0,.slice none 0 0] 30)) (w.heap.size+1) #[.int .i64 M.r,.int .i64 M.s,.slice La.a La.n La.c]:=(Blk.new_at 30 (w.alloc _) _ _ (by simp)).kept (bNw (bNw (Below.refl _ _) _) _)
 have q3:Blk 27 ((((w.alloc (.cells #[.int .i64 M.d,.int .i64 M.h,.int .i64 M.l,.int .i64 M.v,.int .i64 M.u,.int .i64 M.x,.int .i64 M.t,.int .i64 M.n,.slice E.a E.n E.c,.slice L.a L.n L.c,.slice N.a N.n N.c,.slice O.a O.n O.c] 27)).alloc (.cells #[.int .i64 M.r,.int .i64 M.s,.slice La.a La.n La.c] 30)).alloc (.cells #[.int .i64 0,.int .i64 0,.int .i64 0,.int .i64 0,.int .i64 0,.int .i64 0,.int .i64 0,.int .i64 0,.slice none 0 0,.slice none 0 0,.slice none 0 0,.slice none 0 0] 27)).alloc (.cells #[.int .i64 0,.int .i64 0,.slice none 0 0] 30)) (w.heap.size+1+1) #[.int .i64 0,.int .i64 0,.int .i64 0,.int .i64 0,.int .i64 0,.int .i64 0,.int .i64 0,.int .i64 0,.slice none 0 0,.slice none 0 0,.slice none 0 0,.slice none 0 0]:=(Blk.new_at 27 ((w.alloc _).alloc _) _ _ (by simp)).kept (bNw (Below.refl _ _) _)
 have q4:Blk 30 ((((w.alloc (.cells #[.int .i64 M.d,.int .i64 M.h,.int .i64 M.l,.int .i64 M.v,.int .i64 M.u,.int .i64 M.x,.int .i64 M.t,.int .i64 M.n,.slice E.a E.n E.c,.slice L.a L.n L.c,.slice N.a N.n N.c,.slice O.a O.n O.c] 27)).alloc (.cells #[.int .i64 M.r,.int .i64 M.s,.slice La.a La.n La.c] 30)).alloc (.cells #[.int .i64 0,.int .i64 0,.int .i64 0,.int .i64 0,.int .i64 0,.int .i64 0,.int .i64 0,.int .i64 0,.slice none 0 0,.slice none 0 0,.slice none 0 0,.slice none 0 0] 27)).alloc (.cells #[.int .i64 0,.int .i64 0,.slice none 0 0] 30)) (w.heap.size+1+1+1) #[.int .i64 0,.int .i64 0,.slice none 0 0]:=Blk.new_at 30 (((w.alloc _).alloc _).alloc _) _ _ (by simp)
 have kc:=fun (W:World) (hb:Below w.heap.size w W)=>check_call M.d M.h M.l M.v M.u M.x M.t M.n E L N O Y U D M.m W (hM.below hb)
 have hnot:∀ (x:Bool) (w:World),(Op.unary .not (.bool x)).run Tryz.prog w=.ok (.bool (!x)) w:=fun _ _=>rfl
 rw[hE] at kc
 have kg:=grafted_no M.r M.s La hr0
 clear hr0 hE
 go_enter Tryz.func29,Tryz.ntmps29
 go_wp2
 refine cy_region M E L N O 0 w.heap.size q1 (by kernel_rfl) rfl ⟨_,rfl,rfl,rfl,rfl,by kernel_rfl⟩ ⟨_,rfl,rfl,rfl,rfl,by kernel_rfl⟩ ⟨_,rfl,rfl,rfl,rfl,by kernel_rfl⟩ ⟨_,rfl,rfl,rfl,rfl,by kernel_rfl⟩ ⟨_,rfl,rfl,rfl,rfl,by kernel_rfl⟩ rfl (fun W hb=>kc W (bTn hb0 hb)) (fun W=>mdmustM_yes M.d M.h M.l M.v M.u M.x M.t M.n E L N O W) (Nat.le_of_ble_eq_true rfl) ?_
 intro a W2 hs hd hkp hb2
 have ep:=fPu [6,7,8,9] hs hd (fun s h=>hkp s (fun j hj e=>h (by
  rcases (show j=0∨j=1∨j=2∨j=3∨j=4 by omega) with rfl|rfl|rfl|rfl|rfl<;>first|(simp only[cyD,Option.some.injEq] at e;subst e;simp;done)|(simp[cyD] at e))))
 simp only[List.foldl] at ep
 clear hs hd hkp
 generalize a.tmps.getD 6 undef=g6,a.tmps.getD 7 undef=g7,a.tmps.getD 8 undef=g8,a.tmps.getD 9 undef=g9 at ep
 simp only[Act.put,List.setIfInBounds_toArray,List.set_cons_succ,List.set_cons_zero] at ep
 subst ep
 have hb:=bTn hb0 hb2
 have Q1:=hdn (q1.kept hb2)
 have Q2:=hdn (q2.kept hb2)
 have Q3:=hdn (q3.kept hb2)
 have Q4:=hdn (q4.kept hb2)
 obtain⟨s0,s1,s2⟩:=(q2.kept hb2).c3
 clear q1 q2 q3 q4 hb0 hb2 kc
 go_wp2_with (go_at_call 53;refine (kg _).mono ?_;rintro e W3 ⟨rfl,h3⟩;clear kg;have hb3:=bTn hb h3;have P1:=hdn (Q1.out.kept h3);have P2:=hdn (Q2.out.kept h3);have P3:=hdn (Q3.out.kept h3);have P4:=hdn (Q4.out.kept h3);clear h3 hb Q1 Q2 Q3 Q4 s0 s1 s2)
 refine c3_region M E L N O La w.heap.size (w.heap.size+1) (w.heap.size+1+1) (w.heap.size+1+1+1) 0 w.heap.size w (by omega) (by omega) (by omega) (by kernel_rfl) rfl ⟨_,rfl,rfl,rfl,rfl,by kernel_rfl⟩ ⟨_,rfl,rfl,rfl,rfl,by kernel_rfl⟩ ⟨_,rfl,rfl,rfl,rfl,by kernel_rfl⟩ ⟨_,rfl,rfl,rfl,rfl,by kernel_rfl⟩ rfl rfl rfl rfl (by omega) ⟨hb3.drew,hb3.size,P1.out,P2.out,P3.out,P4.out⟩ (Nat.le_of_ble_eq_true rfl) ?_
 intro a W5 hs hd hkp hb5 r3 r4
 have ep:=fPu [13,14] hs hd (fun s h=>hkp s (fun j hj e=>h (by
  rcases (show j=0∨j=1∨j=2∨j=3 by omega) with rfl|rfl|rfl|rfl<;>first|(simp only[c3D,Option.some.injEq] at e;subst e;simp;done)|(simp[c3D] at e))))
 simp only[List.foldl] at ep
 clear hs hd hkp
 generalize a.tmps.getD 13 undef=g13,a.tmps.getD 14 undef=g14 at ep
 simp only[Act.put,List.setIfInBounds_toArray,List.set_cons_succ,List.set_cons_zero] at ep
 subst ep
 obtain⟨y0,y1,y2,y3,y4,y5,y6,y7,y8,y9,y10,y11⟩:=r3.c12
 obtain⟨z0,z1,z2⟩:=r4.c3
 go_wp2
 refine bodyPost_ret (v:=.tuple #[.agg #[.int .i64 M.d,.int .i64 M.h,.int .i64 M.l,.int .i64 M.v,.int .i64 M.u,.int .i64 M.x,.int .i64 M.t,.int .i64 M.n,.slice E.a E.n E.c,.slice L.a L.n L.c,.slice N.a N.n N.c,.slice O.a O.n O.c],.agg #[.int .i64 M.r,.int .i64 M.s,.slice La.a La.n La.c]]) ?_ rfl ⟨rfl,hb5⟩
 simp[results,Tryz.results29,go_sem,y0,y1,y2,y3,y4,y5,y6,y7,y8,y9,y10,y11,z0,z1,z2]
theorem checked_yes (M:Md)(E L N O:SL)(Y U D:Nat→Nat→SL)(La:SL)(Ya:Nat→Nat→SL)(w:World)(hM:ModAt w E L N O Y U D M.m)(hA:AdAt w La Ya M.a)(hE:checkB M.d M.h M.l M.v M.u M.x M.t M.n M.m=0)(hr0:M.r≠0)(hEA:checkA M.r M.s M.d M.h M.l M.v M.u M.x M.t M.n M.a=0) :
  Calls Tryz.prog 29 #[.agg #[.int .i64 M.d,.int .i64 M.h,.int .i64 M.l,.int .i64 M.v,.int .i64 M.u,.int .i64 M.x,.int .i64 M.t,.int .i64 M.n,.slice E.a E.n E.c,.slice L.a L.n L.c,.slice N.a N.n N.c,.slice O.a O.n O.c],.agg #[.int .i64 M.r,.int .i64 M.s,.slice La.a La.n La.c]] w fun e w'=>e=.returned (.tuple #[.agg #[.int .i64 M.d,.int .i64 M.h,.int .i64 M.l,.int .i64 M.v,.int .i64 M.u,.int .i64 M.x,.int .i64 M.t,.int .i64 M.n,.slice E.a E.n E.c,.slice L.a L.n L.c,.slice N.a N.n N.c,.slice O.a O.n O.c],.agg #[.int .i64 M.r,.int .i64 M.s,.slice La.a La.n La.c]])∧Below w.heap.size w w':=by
 have hb0:=bNw (bNw (bNw (bNw (Below.refl w.heap.size w) (.cells #[.int .i64 M.d,.int .i64 M.h,.int .i64 M.l,.int .i64 M.v,.int .i64 M.u,.int .i64 M.x,.int .i64 M.t,.int .i64 M.n,.slice E.a E.n E.c,.slice L.a L.n L.c,.slice N.a N.n N.c,.slice O.a O.n O.c] 27)) (.cells #[.int .i64 M.r,.int .i64 M.s,.slice La.a La.n La.c] 30)) (.cells #[.int .i64 0,.int .i64 0,.int .i64 0,.int .i64 0,.int .i64 0,.int .i64 0,.int .i64 0,.int .i64 0,.slice none 0 0,.slice none 0 0,.slice none 0 0,.slice none 0 0] 27)) (.cells #[.int .i64 0,.int .i64 0,.slice none 0 0] 30)
 have q1:Blk 27 ((((w.alloc (.cells #[.int .i64 M.d,.int .i64 M.h,.int .i64 M.l,.int .i64 M.v,.int .i64 M.u,.int .i64 M.x,.int .i64 M.t,.int .i64 M.n,.slice E.a E.n E.c,.slice L.a L.n L.c,.slice N.a N.n N.c,.slice O.a O.n O.c] 27)).alloc (.cells #[.int .i64 M.r,.int .i64 M.s,.slice La.a La.n La.c] 30)).alloc (.cells #[.int .i64 0,.int .i64 0,.int .i64 0,.int .i64 0,.int .i64 0,.int .i64 0,.int .i64 0,.int .i64 0,.slice none 0 0,.slice none 0 0,.slice none 0 0,.slice none 0 0] 27)).alloc (.cells #[.int .i64 0,.int .i64 0,.slice none 0 0] 30)) w.heap.size #[.int .i64 M.d,.int .i64 M.h,.int .i64 M.l,.int .i64 M.v,.int .i64 M.u,.int .i64 M.x,.int .i64 M.t,.int .i64 M.n,.slice E.a E.n E.c,.slice L.a L.n L.c,.slice N.a N.n N.c,.slice O.a O.n O.c]:=(Blk.new 27 w _).kept (bNw (bNw (bNw (Below.refl _ _) _) _) _)
 have q2:Blk 30 ((((w.alloc (.cells #[.int .i64 M.d,.int .i64 M.h,.int .i64 M.l,.int .i64 M.v,.int .i64 M.u,.int .i64 M.x,.int .i64 M.t,.int .i64 M.n,.slice E.a E.n E.c,.slice L.a L.n L.c,.slice N.a N.n N.c,.slice O.a O.n O.c] 27)).alloc (.cells #[.int .i64 M.r,.int .i64 M.s,.slice La.a La.n La.c] 30)).alloc (.cells #[.int .i64 0,.int .i64 0,.int .i64 0,.int .i64 0,.int .i64 0,.int .i64 0,.int .i64 0,.int .i64 0,.slice none 0 0,.slice none 0 0,.slice none 0 0,.slice none 0 0] 27)).alloc (.cells #[.int .i64 0,.int .i64 0,.slice none 0 0] 30)) (w.heap.size+1) #[.int .i64 M.r,.int .i64 M.s,.slice La.a La.n La.c]:=(Blk.new_at 30 (w.alloc _) _ _ (by simp)).kept (bNw (bNw (Below.refl _ _) _) _)
 have q3:Blk 27 ((((w.alloc (.cells #[.int .i64 M.d,.int .i64 M.h,.int .i64 M.l,.int .i64 M.v,.int .i64 M.u,.int .i64 M.x,.int .i64 M.t,.int .i64 M.n,.slice E.a E.n E.c,.slice L.a L.n L.c,.slice N.a N.n N.c,.slice O.a O.n O.c] 27)).alloc (.cells #[.int .i64 M.r,.int .i64 M.s,.slice La.a La.n La.c] 30)).alloc (.cells #[.int .i64 0,.int .i64 0,.int .i64 0,.int .i64 0,.int .i64 0,.int .i64 0,.int .i64 0,.int .i64 0,.slice none 0 0,.slice none 0 0,.slice none 0 0,.slice none 0 0] 27)).alloc (.cells #[.int .i64 0,.int .i64 0,.slice none 0 0] 30)) (w.heap.size+1+1) #[.int .i64 0,.int .i64 0,.int .i64 0,.int .i64 0,.int .i64 0,.int .i64 0,.int .i64 0,.int .i64 0,.slice none 0 0,.slice none 0 0,.slice none 0 0,.slice none 0 0]:=(Blk.new_at 27 ((w.alloc _).alloc _) _ _ (by simp)).kept (bNw (Below.refl _ _) _)
 have q4:Blk 30 ((((w.alloc (.cells #[.int .i64 M.d,.int .i64 M.h,.int .i64 M.l,.int .i64 M.v,.int .i64 M.u,.int .i64 M.x,.int .i64 M.t,.int .i64 M.n,.slice E.a E.n E.c,.slice L.a L.n L.c,.slice N.a N.n N.c,.slice O.a O.n O.c] 27)).alloc (.cells #[.int .i64 M.r,.int .i64 M.s,.slice La.a La.n La.c] 30)).alloc (.cells #[.int .i64 0,.int .i64 0,.int .i64 0,.int .i64 0,.int .i64 0,.int .i64 0,.int .i64 0,.int .i64 0,.slice none 0 0,.slice none 0 0,.slice none 0 0,.slice none 0 0] 27)).alloc (.cells #[.int .i64 0,.int .i64 0,.slice none 0 0] 30)) (w.heap.size+1+1+1) #[.int .i64 0,.int .i64 0,.slice none 0 0]:=Blk.new_at 30 (((w.alloc _).alloc _).alloc _) _ _ (by simp)
 have kc:=fun (W:World) (hb:Below w.heap.size w W)=>check_call M.d M.h M.l M.v M.u M.x M.t M.n E L N O Y U D M.m W (hM.below hb)
 have hnot:∀ (x:Bool) (w:World),(Op.unary .not (.bool x)).run Tryz.prog w=.ok (.bool (!x)) w:=fun _ _=>rfl
 have ka:=fun (W:World) (hb:Below w.heap.size w W)=>grcheck_call M.r M.s M.d M.h M.l M.v M.u M.x M.t M.n La Ya M.a W (hA.below hb)
 rw[hE] at kc
 rw[hEA] at ka
 have kg:=grafted_yes M.r M.s La hr0
 clear hr0 hE hEA
 go_enter Tryz.func29,Tryz.ntmps29
 go_wp2
 refine cy_region M E L N O 0 w.heap.size q1 (by kernel_rfl) rfl ⟨_,rfl,rfl,rfl,rfl,by kernel_rfl⟩ ⟨_,rfl,rfl,rfl,rfl,by kernel_rfl⟩ ⟨_,rfl,rfl,rfl,rfl,by kernel_rfl⟩ ⟨_,rfl,rfl,rfl,rfl,by kernel_rfl⟩ ⟨_,rfl,rfl,rfl,rfl,by kernel_rfl⟩ rfl (fun W hb=>kc W (bTn hb0 hb)) (fun W=>mdmustM_yes M.d M.h M.l M.v M.u M.x M.t M.n E L N O W) (Nat.le_of_ble_eq_true rfl) ?_
 intro a W2 hs hd hkp hb2
 have ep:=fPu [6,7,8,9] hs hd (fun s h=>hkp s (fun j hj e=>h (by
  rcases (show j=0∨j=1∨j=2∨j=3∨j=4 by omega) with rfl|rfl|rfl|rfl|rfl<;>first|(simp only[cyD,Option.some.injEq] at e;subst e;simp;done)|(simp[cyD] at e))))
 simp only[List.foldl] at ep
 clear hs hd hkp
 generalize a.tmps.getD 6 undef=g6,a.tmps.getD 7 undef=g7,a.tmps.getD 8 undef=g8,a.tmps.getD 9 undef=g9 at ep
 simp only[Act.put,List.setIfInBounds_toArray,List.set_cons_succ,List.set_cons_zero] at ep
 subst ep
 have hb:=bTn hb0 hb2
 have Q1:=hdn (q1.kept hb2)
 have Q2:=hdn (q2.kept hb2)
 have Q3:=hdn (q3.kept hb2)
 have Q4:=hdn (q4.kept hb2)
 obtain⟨s0,s1,s2⟩:=(q2.kept hb2).c3
 clear q1 q2 q3 q4 hb0 hb2 kc
 go_wp2_with (go_at_call 53;refine (kg _).mono ?_;rintro e W3 ⟨rfl,h3⟩;clear kg;have hb3:=bTn hb h3;have P1:=hdn (Q1.out.kept h3);have P2:=hdn (Q2.out.kept h3);have P3:=hdn (Q3.out.kept h3);have P4:=hdn (Q4.out.kept h3);clear h3 hb Q1 Q2 Q3 Q4 s0 s1 s2)
 refine c4_region M E L N O La w.heap.size (w.heap.size+1) (w.heap.size+1+1) (w.heap.size+1+1+1) 0 w.heap.size w (by omega) (by omega) (by omega) (by kernel_rfl) rfl ⟨_,rfl,rfl,rfl,rfl,by kernel_rfl⟩ ⟨_,rfl,rfl,rfl,rfl,by kernel_rfl⟩ ⟨_,rfl,rfl,rfl,rfl,by kernel_rfl⟩ ⟨_,rfl,rfl,rfl,rfl,by kernel_rfl⟩ ⟨_,rfl,rfl,rfl,rfl,by kernel_rfl⟩ ⟨_,rfl,rfl,rfl,rfl,by kernel_rfl⟩ ⟨_,rfl,rfl,rfl,rfl,by kernel_rfl⟩ ⟨_,rfl,rfl,rfl,rfl,by kernel_rfl⟩ ⟨_,rfl,rfl,rfl,rfl,by kernel_rfl⟩ rfl rfl rfl rfl (by omega) ⟨hb3.drew,hb3.size,P1.out,P2.out,P3.out,P4.out⟩ ka (fun W=>mdmustA_yes M.r M.s La W) (Nat.le_of_ble_eq_true rfl) ?_
 intro a W5 hs hd hkp hb5 r3 r4
 have ep:=fPu [15,16,17,18,19,20,21] hs hd (fun s h=>hkp s (fun j hj e=>h (by
  rcases (show j=0∨j=1∨j=2∨j=3∨j=4∨j=5∨j=6∨j=7∨j=8 by omega) with rfl|rfl|rfl|rfl|rfl|rfl|rfl|rfl|rfl<;>first|(simp only[c4D,Option.some.injEq] at e;subst e;simp;done)|(simp[c4D] at e))))
 simp only[List.foldl] at ep
 clear hs hd hkp
 generalize a.tmps.getD 15 undef=g15,a.tmps.getD 16 undef=g16,a.tmps.getD 17 undef=g17,a.tmps.getD 18 undef=g18,a.tmps.getD 19 undef=g19,a.tmps.getD 20 undef=g20,a.tmps.getD 21 undef=g21 at ep
 simp only[Act.put,List.setIfInBounds_toArray,List.set_cons_succ,List.set_cons_zero] at ep
 subst ep
 obtain⟨y0,y1,y2,y3,y4,y5,y6,y7,y8,y9,y10,y11⟩:=r3.c12
 obtain⟨z0,z1,z2⟩:=r4.c3
 go_wp2
 refine bodyPost_ret (v:=.tuple #[.agg #[.int .i64 M.d,.int .i64 M.h,.int .i64 M.l,.int .i64 M.v,.int .i64 M.u,.int .i64 M.x,.int .i64 M.t,.int .i64 M.n,.slice E.a E.n E.c,.slice L.a L.n L.c,.slice N.a N.n N.c,.slice O.a O.n O.c],.agg #[.int .i64 M.r,.int .i64 M.s,.slice La.a La.n La.c]]) ?_ rfl ⟨rfl,hb5⟩
 simp[results,Tryz.results29,go_sem,y0,y1,y2,y3,y4,y5,y6,y7,y8,y9,y10,y11,z0,z1,z2]
theorem checked_no (M:Md)(E L N O:SL)(Y U D:Nat→Nat→SL)(La:SL)(Ya:Nat→Nat→SL)(w:World)(hM:ModAt w E L N O Y U D M.m)(hA:AdAt w La Ya M.a)(hE:checkB M.d M.h M.l M.v M.u M.x M.t M.n M.m=0)(hr0:M.r≠0)(hEA:¬checkA M.r M.s M.d M.h M.l M.v M.u M.x M.t M.n M.a=0) :
  Calls Tryz.prog 29 #[.agg #[.int .i64 M.d,.int .i64 M.h,.int .i64 M.l,.int .i64 M.v,.int .i64 M.u,.int .i64 M.x,.int .i64 M.t,.int .i64 M.n,.slice E.a E.n E.c,.slice L.a L.n L.c,.slice N.a N.n N.c,.slice O.a O.n O.c],.agg #[.int .i64 M.r,.int .i64 M.s,.slice La.a La.n La.c]] w fun e w'=>e=.panicked [{ v:=.iface 35 (.int .i64 (checkA M.r M.s M.d M.h M.l M.v M.u M.x M.t M.n M.a)),recovered:=false }]∧Below w.heap.size w w':=by
 have hb0:=bNw (bNw (bNw (bNw (Below.refl w.heap.size w) (.cells #[.int .i64 M.d,.int .i64 M.h,.int .i64 M.l,.int .i64 M.v,.int .i64 M.u,.int .i64 M.x,.int .i64 M.t,.int .i64 M.n,.slice E.a E.n E.c,.slice L.a L.n L.c,.slice N.a N.n N.c,.slice O.a O.n O.c] 27)) (.cells #[.int .i64 M.r,.int .i64 M.s,.slice La.a La.n La.c] 30)) (.cells #[.int .i64 0,.int .i64 0,.int .i64 0,.int .i64 0,.int .i64 0,.int .i64 0,.int .i64 0,.int .i64 0,.slice none 0 0,.slice none 0 0,.slice none 0 0,.slice none 0 0] 27)) (.cells #[.int .i64 0,.int .i64 0,.slice none 0 0] 30)
 have q1:Blk 27 ((((w.alloc (.cells #[.int .i64 M.d,.int .i64 M.h,.int .i64 M.l,.int .i64 M.v,.int .i64 M.u,.int .i64 M.x,.int .i64 M.t,.int .i64 M.n,.slice E.a E.n E.c,.slice L.a L.n L.c,.slice N.a N.n N.c,.slice O.a O.n O.c] 27)).alloc (.cells #[.int .i64 M.r,.int .i64 M.s,.slice La.a La.n La.c] 30)).alloc (.cells #[.int .i64 0,.int .i64 0,.int .i64 0,.int .i64 0,.int .i64 0,.int .i64 0,.int .i64 0,.int .i64 0,.slice none 0 0,.slice none 0 0,.slice none 0 0,.slice none 0 0] 27)).alloc (.cells #[.int .i64 0,.int .i64 0,.slice none 0 0] 30)) w.heap.size #[.int .i64 M.d,.int .i64 M.h,.int .i64 M.l,.int .i64 M.v,.int .i64 M.u,.int .i64 M.x,.int .i64 M.t,.int .i64 M.n,.slice E.a E.n E.c,.slice L.a L.n L.c,.slice N.a N.n N.c,.slice O.a O.n O.c]:=(Blk.new 27 w _).kept (bNw (bNw (bNw (Below.refl _ _) _) _) _)
 have q2:Blk 30 ((((w.alloc (.cells #[.int .i64 M.d,.int .i64 M.h,.int .i64 M.l,.int .i64 M.v,.int .i64 M.u,.int .i64 M.x,.int .i64 M.t,.int .i64 M.n,.slice E.a E.n E.c,.slice L.a L.n L.c,.slice N.a N.n N.c,.slice O.a O.n O.c] 27)).alloc (.cells #[.int .i64 M.r,.int .i64 M.s,.slice La.a La.n La.c] 30)).alloc (.cells #[.int .i64 0,.int .i64 0,.int .i64 0,.int .i64 0,.int .i64 0,.int .i64 0,.int .i64 0,.int .i64 0,.slice none 0 0,.slice none 0 0,.slice none 0 0,.slice none 0 0] 27)).alloc (.cells #[.int .i64 0,.int .i64 0,.slice none 0 0] 30)) (w.heap.size+1) #[.int .i64 M.r,.int .i64 M.s,.slice La.a La.n La.c]:=(Blk.new_at 30 (w.alloc _) _ _ (by simp)).kept (bNw (bNw (Below.refl _ _) _) _)
 have q3:Blk 27 ((((w.alloc (.cells #[.int .i64 M.d,.int .i64 M.h,.int .i64 M.l,.int .i64 M.v,.int .i64 M.u,.int .i64 M.x,.int .i64 M.t,.int .i64 M.n,.slice E.a E.n E.c,.slice L.a L.n L.c,.slice N.a N.n N.c,.slice O.a O.n O.c] 27)).alloc (.cells #[.int .i64 M.r,.int .i64 M.s,.slice La.a La.n La.c] 30)).alloc (.cells #[.int .i64 0,.int .i64 0,.int .i64 0,.int .i64 0,.int .i64 0,.int .i64 0,.int .i64 0,.int .i64 0,.slice none 0 0,.slice none 0 0,.slice none 0 0,.slice none 0 0] 27)).alloc (.cells #[.int .i64 0,.int .i64 0,.slice none 0 0] 30)) (w.heap.size+1+1) #[.int .i64 0,.int .i64 0,.int .i64 0,.int .i64 0,.int .i64 0,.int .i64 0,.int .i64 0,.int .i64 0,.slice none 0 0,.slice none 0 0,.slice none 0 0,.slice none 0 0]:=(Blk.new_at 27 ((w.alloc _).alloc _) _ _ (by simp)).kept (bNw (Below.refl _ _) _)
 have q4:Blk 30 ((((w.alloc (.cells #[.int .i64 M.d,.int .i64 M.h,.int .i64 M.l,.int .i64 M.v,.int .i64 M.u,.int .i64 M.x,.int .i64 M.t,.int .i64 M.n,.slice E.a E.n E.c,.slice L.a L.n L.c,.slice N.a N.n N.c,.slice O.a O.n O.c] 27)).alloc (.cells #[.int .i64 M.r,.int .i64 M.s,.slice La.a La.n La.c] 30)).alloc (.cells #[.int .i64 0,.int .i64 0,.int .i64 0,.int .i64 0,.int .i64 0,.int .i64 0,.int .i64 0,.int .i64 0,.slice none 0 0,.slice none 0 0,.slice none 0 0,.slice none 0 0] 27)).alloc (.cells #[.int .i64 0,.int .i64 0,.slice none 0 0] 30)) (w.heap.size+1+1+1) #[.int .i64 0,.int .i64 0,.slice none 0 0]:=Blk.new_at 30 (((w.alloc _).alloc _).alloc _) _ _ (by simp)
 have kc:=fun (W:World) (hb:Below w.heap.size w W)=>check_call M.d M.h M.l M.v M.u M.x M.t M.n E L N O Y U D M.m W (hM.below hb)
 have hnot:∀ (x:Bool) (w:World),(Op.unary .not (.bool x)).run Tryz.prog w=.ok (.bool (!x)) w:=fun _ _=>rfl
 have ka:=fun (W:World) (hb:Below w.heap.size w W)=>grcheck_call M.r M.s M.d M.h M.l M.v M.u M.x M.t M.n La Ya M.a W (hA.below hb)
 obtain⟨c,ec⟩:∃ c,checkA M.r M.s M.d M.h M.l M.v M.u M.x M.t M.n M.a=c:=⟨_,rfl⟩
 rw[hE] at kc
 rw[ec] at ka hEA ⊢
 have kg:=grafted_yes M.r M.s La hr0
 clear hr0 hE ec
 go_enter Tryz.func29,Tryz.ntmps29
 go_wp2
 refine cy_region M E L N O 0 w.heap.size q1 (by kernel_rfl) rfl ⟨_,rfl,rfl,rfl,rfl,by kernel_rfl⟩ ⟨_,rfl,rfl,rfl,rfl,by kernel_rfl⟩ ⟨_,rfl,rfl,rfl,rfl,by kernel_rfl⟩ ⟨_,rfl,rfl,rfl,rfl,by kernel_rfl⟩ ⟨_,rfl,rfl,rfl,rfl,by kernel_rfl⟩ rfl (fun W hb=>kc W (bTn hb0 hb)) (fun W=>mdmustM_yes M.d M.h M.l M.v M.u M.x M.t M.n E L N O W) (Nat.le_of_ble_eq_true rfl) ?_
 intro a W2 hs hd hkp hb2
 have ep:=fPu [6,7,8,9] hs hd (fun s h=>hkp s (fun j hj e=>h (by
  rcases (show j=0∨j=1∨j=2∨j=3∨j=4 by omega) with rfl|rfl|rfl|rfl|rfl<;>first|(simp only[cyD,Option.some.injEq] at e;subst e;simp;done)|(simp[cyD] at e))))
 simp only[List.foldl] at ep
 clear hs hd hkp
 generalize a.tmps.getD 6 undef=g6,a.tmps.getD 7 undef=g7,a.tmps.getD 8 undef=g8,a.tmps.getD 9 undef=g9 at ep
 simp only[Act.put,List.setIfInBounds_toArray,List.set_cons_succ,List.set_cons_zero] at ep
 subst ep
 have hb:=bTn hb0 hb2
 have Q1:=hdn (q1.kept hb2)
 have Q2:=hdn (q2.kept hb2)
 have Q3:=hdn (q3.kept hb2)
 have Q4:=hdn (q4.kept hb2)
 obtain⟨s0,s1,s2⟩:=(q2.kept hb2).c3
 clear q1 q2 q3 q4 hb0 hb2 kc
 go_wp2_with (go_at_call 53;refine (kg _).mono ?_;rintro e W3 ⟨rfl,h3⟩;clear kg;have hb3:=bTn hb h3;have P1:=hdn (Q1.out.kept h3);have P2:=hdn (Q2.out.kept h3);have P3:=hdn (Q3.out.kept h3);have P4:=hdn (Q4.out.kept h3);clear h3 hb Q1 Q2 Q3 Q4 s0 s1 s2)
 refine c5_region M E L N O La w.heap.size (w.heap.size+1) (w.heap.size+1+1) (w.heap.size+1+1+1) c w.heap.size w _ (by omega) (by omega) (by omega) (by kernel_rfl) rfl ⟨_,rfl,rfl,rfl,rfl,by kernel_rfl⟩ ⟨_,rfl,rfl,rfl,rfl,by kernel_rfl⟩ ⟨_,rfl,rfl,rfl,rfl,by kernel_rfl⟩ ⟨_,rfl,rfl,rfl,rfl,by kernel_rfl⟩ ⟨_,rfl,rfl,rfl,rfl,by kernel_rfl⟩ ⟨_,rfl,rfl,rfl,rfl,by kernel_rfl⟩ ⟨_,rfl,rfl,rfl,rfl,by kernel_rfl⟩ ⟨_,rfl,rfl,rfl,rfl,by kernel_rfl⟩ ⟨_,rfl,rfl,rfl,rfl,by kernel_rfl⟩ rfl rfl rfl rfl (by omega) ⟨hb3.drew,hb3.size,P1.out,P2.out,P3.out,P4.out⟩ ka (fun W=>mdmustA_no M.r M.s La c hEA W) (Nat.le_of_ble_eq_true rfl) ?_
 intro a W5 hd hb5
 exact⟨hd,rfl,hb5⟩
def badE (M:Md):Int:=if checkB M.d M.h M.l M.v M.u M.x M.t M.n M.m=0 then (if M.r=0 then 0 else checkA M.r M.s M.d M.h M.l M.v M.u M.x M.t M.n M.a) else checkB M.d M.h M.l M.v M.u M.x M.t M.n M.m
theorem badE_ok {M:Md}(h:badE M=0):MdOk M:=by
 unfold badE at h
 by_cases h1:checkB M.d M.h M.l M.v M.u M.x M.t M.n M.m=0
 ·rw[if_pos h1] at h
  refine⟨?_,h1,fun hr=>?_⟩
  ·unfold checkB at h1
   cases ok:okB M.d M.h M.l M.v M.u M.x M.t M.n with
   | true=>rfl
   | false=>rw[ok,if_neg (by decide)] at h1;exact absurd h1 (by decide)
  ·rw[if_neg hr] at h
   exact h
 ·rw[if_neg h1] at h
  exact absurd h h1
theorem checked_ok (M:Md)(E L N O:SL)(Y U D:Nat→Nat→SL)(La:SL)(Ya:Nat→Nat→SL)(w:World)(hM:ModAt w E L N O Y U D M.m)(hA:AdAt w La Ya M.a)(h:badE M=0):Calls Tryz.prog 29 #[.agg #[.int .i64 M.d,.int .i64 M.h,.int .i64 M.l,.int .i64 M.v,.int .i64 M.u,.int .i64 M.x,.int .i64 M.t,.int .i64 M.n,.slice E.a E.n E.c,.slice L.a L.n L.c,.slice N.a N.n N.c,.slice O.a O.n O.c],.agg #[.int .i64 M.r,.int .i64 M.s,.slice La.a La.n La.c]] w fun e w'=>e=.returned (.tuple #[.agg #[.int .i64 M.d,.int .i64 M.h,.int .i64 M.l,.int .i64 M.v,.int .i64 M.u,.int .i64 M.x,.int .i64 M.t,.int .i64 M.n,.slice E.a E.n E.c,.slice L.a L.n L.c,.slice N.a N.n N.c,.slice O.a O.n O.c],.agg #[.int .i64 M.r,.int .i64 M.s,.slice La.a La.n La.c]])∧Below w.heap.size w w':=by
 have k:=badE_ok h
 by_cases hr:M.r=0
 ·exact checked_none M E L N O Y U D La Ya w hM k.ck hr
 ·exact checked_yes M E L N O Y U D La Ya w hM hA k.ck hr (k.ad hr)
theorem checked_err (M:Md)(E L N O:SL)(Y U D:Nat→Nat→SL)(La:SL)(Ya:Nat→Nat→SL)(w:World)(hM:ModAt w E L N O Y U D M.m)(hA:AdAt w La Ya M.a)(h:¬badE M=0):Calls Tryz.prog 29 #[.agg #[.int .i64 M.d,.int .i64 M.h,.int .i64 M.l,.int .i64 M.v,.int .i64 M.u,.int .i64 M.x,.int .i64 M.t,.int .i64 M.n,.slice E.a E.n E.c,.slice L.a L.n L.c,.slice N.a N.n N.c,.slice O.a O.n O.c],.agg #[.int .i64 M.r,.int .i64 M.s,.slice La.a La.n La.c]] w fun e w'=>e=.panicked [{ v:=.iface 35 (.int .i64 (badE M)),recovered:=false }]∧Below w.heap.size w w':=by
 by_cases h1:checkB M.d M.h M.l M.v M.u M.x M.t M.n M.m=0
 ·by_cases hr:M.r=0
  ·exact absurd (by unfold badE;rw[if_pos h1,if_pos hr]) h
  ·have e:badE M=checkA M.r M.s M.d M.h M.l M.v M.u M.x M.t M.n M.a:=by unfold badE;rw[if_pos h1,if_neg hr]
   rw[e] at h ⊢
   exact checked_no M E L N O Y U D La Ya w hM hA h1 hr h
 ·have e:badE M=checkB M.d M.h M.l M.v M.u M.x M.t M.n M.m:=by unfold badE;rw[if_neg h1]
  rw[e]
  exact checked_bad M E L N O Y U D La Ya w hM h1
theorem rdcheck_call (M:Md)(E L N O:SL)(Y U D:Nat→Nat→SL)(La:SL)(Ya:Nat→Nat→SL)(w:World)(hM:ModAt w E L N O Y U D M.m)(hA:AdAt w La Ya M.a)(hm:M.m.ln≤9223372036854775807)(ha:M.a.ln≤9223372036854775807) :
  Calls Tryz.prog 31 #[.agg #[.int .i64 M.d,.int .i64 M.h,.int .i64 M.l,.int .i64 M.v,.int .i64 M.u,.int .i64 M.x,.int .i64 M.t,.int .i64 M.n,.slice E.a E.n E.c,.slice L.a L.n L.c,.slice N.a N.n N.c,.slice O.a O.n O.c],.agg #[.int .i64 M.r,.int .i64 M.s,.slice La.a La.n La.c]] w fun e w'=>e=.returned (.int .i64 (badE M))∧Below w.heap.size w w':=by
 have hb0:=bNw (bNw (Below.refl w.heap.size w) (.cells #[.int .i64 M.d,.int .i64 M.h,.int .i64 M.l,.int .i64 M.v,.int .i64 M.u,.int .i64 M.x,.int .i64 M.t,.int .i64 M.n,.slice E.a E.n E.c,.slice L.a L.n L.c,.slice N.a N.n N.c,.slice O.a O.n O.c] 27)) (.cells #[.int .i64 M.r,.int .i64 M.s,.slice La.a La.n La.c] 30)
 have q1:Blk 27 ((w.alloc (.cells #[.int .i64 M.d,.int .i64 M.h,.int .i64 M.l,.int .i64 M.v,.int .i64 M.u,.int .i64 M.x,.int .i64 M.t,.int .i64 M.n,.slice E.a E.n E.c,.slice L.a L.n L.c,.slice N.a N.n N.c,.slice O.a O.n O.c] 27)).alloc (.cells #[.int .i64 M.r,.int .i64 M.s,.slice La.a La.n La.c] 30)) w.heap.size #[.int .i64 M.d,.int .i64 M.h,.int .i64 M.l,.int .i64 M.v,.int .i64 M.u,.int .i64 M.x,.int .i64 M.t,.int .i64 M.n,.slice E.a E.n E.c,.slice L.a L.n L.c,.slice N.a N.n N.c,.slice O.a O.n O.c]:=(Blk.new 27 w _).kept (bNw (Below.refl _ _) _)
 have q2:Blk 30 ((w.alloc (.cells #[.int .i64 M.d,.int .i64 M.h,.int .i64 M.l,.int .i64 M.v,.int .i64 M.u,.int .i64 M.x,.int .i64 M.t,.int .i64 M.n,.slice E.a E.n E.c,.slice L.a L.n L.c,.slice N.a N.n N.c,.slice O.a O.n O.c] 27)).alloc (.cells #[.int .i64 M.r,.int .i64 M.s,.slice La.a La.n La.c] 30)) (w.heap.size+1) #[.int .i64 M.r,.int .i64 M.s,.slice La.a La.n La.c]:=Blk.new_at 30 (w.alloc _) _ _ (by simp)
 have kc:=refCheck_call M.d M.h M.l M.v M.u M.x M.t M.n E L N O Y U D M.m _ (hM.below hb0) hm
 have ka:=fun (W:World) (hb:Below w.heap.size w W)=>grrefCheck_call M.r M.s M.d M.h M.l M.v M.u M.x M.t M.n La Ya M.a W (hA.below hb) ha
 unfold badE
 obtain⟨c,ec⟩:∃ c,checkB M.d M.h M.l M.v M.u M.x M.t M.n M.m=c:=⟨_,rfl⟩
 obtain⟨d,ed⟩:∃ d,checkA M.r M.s M.d M.h M.l M.v M.u M.x M.t M.n M.a=d:=⟨_,rfl⟩
 rw[ec] at kc ⊢
 rw[ed] at ka ⊢
 clear ec ed hM hA
 have Q1:=hdn q1
 have Q2:=hdn q2
 clear q1 q2
 by_cases h1:c=0
 ·subst h1
  rw[if_pos rfl]
  by_cases h2:M.r=0
  ·have z:(M.r != 0)=false:=by simp[h2]
   rw[if_pos h2]
   clear h2
   go_enter Tryz.func31,Tryz.ntmps31
   go_wp2_with (go_at_call 50;refine kc.mono ?_;rintro e W1 ⟨rfl,h1⟩;have hb1:=bTn hb0 h1;obtain⟨s0,s1,s2⟩:=(Q2.out.kept h1).c3;clear h1 hb0)
   go_ret
   exact⟨rfl,hb1⟩
  ·have z:(M.r != 0)=true:=by simp[h2]
   rw[if_neg h2]
   clear h2
   go_enter Tryz.func31,Tryz.ntmps31
   go_wp2_with (first
    | (go_at_call 50;refine kc.mono ?_;rintro e W1 ⟨rfl,h1⟩;have hb1:=bTn hb0 h1;obtain⟨s0,s1,s2⟩:=(Q2.out.kept h1).c3;obtain⟨a0,a1,a2,a3,a4,a5,a6,a7,a8,a9,a10,a11⟩:=(Q1.out.kept h1).c12;clear h1 hb0)
    | (go_at_call 65;refine (ka _ hb1).mono ?_;rintro e W2 ⟨rfl,h2⟩;have hb2:=bTn hb1 h2;clear h2 hb1))
   go_ret
   exact⟨rfl,hb2⟩
 ·have z:(c==0)=false:=by simp[h1]
  rw[if_neg h1]
  clear h1
  go_enter Tryz.func31,Tryz.ntmps31
  go_wp2_with (go_at_call 50;refine kc.mono ?_;rintro e W1 ⟨rfl,h1⟩;have hb1:=bTn hb0 h1;obtain⟨s0,s1,s2⟩:=(Q2.out.kept h1).c3;clear h1 hb0)
  go_ret
  exact⟨rfl,hb1⟩
theorem Step_ok (M:Md)(E L N O:SL)(Y U D:Nat→Nat→SL)(La:SL)(Ya:Nat→Nat→SL)(w:World)(hM:ModAt w E L N O Y U D M.m)(hA:AdAt w La Ya M.a)(pa:Option Addr)(n pc:Nat)(p tok:Int)(RP:World→Option Addr→Nat→Nat→Option Addr→Nat→Nat→Prop)(hE:badE M=0)(k:∀ W,Below w.heap.size w W→Calls Tryz.prog 30 #[.agg #[.int .i64 M.d,.int .i64 M.h,.int .i64 M.l,.int .i64 M.v,.int .i64 M.u,.int .i64 M.x,.int .i64 M.t,.int .i64 M.n,.slice E.a E.n E.c,.slice L.a L.n L.c,.slice N.a N.n N.c,.slice O.a O.n O.c],.agg #[.int .i64 M.r,.int .i64 M.s,.slice La.a La.n La.c],.slice pa n pc,.int .i64 p,.int .i64 tok] W fun e w'=>(∃ a m c b j k,e=.returned (.tuple #[.slice a m c,.slice b j k])∧RP w' a m c b j k)∧Below W.heap.size W w') :
  Calls Tryz.prog 11 #[.agg #[.int .i64 M.d,.int .i64 M.h,.int .i64 M.l,.int .i64 M.v,.int .i64 M.u,.int .i64 M.x,.int .i64 M.t,.int .i64 M.n,.slice E.a E.n E.c,.slice L.a L.n L.c,.slice N.a N.n N.c,.slice O.a O.n O.c],.agg #[.int .i64 M.r,.int .i64 M.s,.slice La.a La.n La.c],.slice pa n pc,.int .i64 p,.int .i64 tok] w fun e w'=>(∃ a m c b j k,e=.returned (.tuple #[.slice a m c,.slice b j k,.int .i64 0])∧RP w' a m c b j k)∧Below w.heap.size w w':=by
 have hmf:∀ (fn:Fn) (first cap:Array Value) (w:World),(Instr.makeFunc fn first cap).run Tryz.prog w=.ok (.func fn first cap) w:=fun _ _ _ _=>rfl
 have hb0:=bNw (bNw (bNw (Below.refl w.heap.size w) (.cells #[.int .i64 M.d,.int .i64 M.h,.int .i64 M.l,.int .i64 M.v,.int .i64 M.u,.int .i64 M.x,.int .i64 M.t,.int .i64 M.n,.slice E.a E.n E.c,.slice L.a L.n L.c,.slice N.a N.n N.c,.slice O.a O.n O.c] 27)) (.cells #[.int .i64 M.r,.int .i64 M.s,.slice La.a La.n La.c] 30)) (.cells #[.int .i64 0] 35)
 have q1:Blk 27 (((w.alloc (.cells #[.int .i64 M.d,.int .i64 M.h,.int .i64 M.l,.int .i64 M.v,.int .i64 M.u,.int .i64 M.x,.int .i64 M.t,.int .i64 M.n,.slice E.a E.n E.c,.slice L.a L.n L.c,.slice N.a N.n N.c,.slice O.a O.n O.c] 27)).alloc (.cells #[.int .i64 M.r,.int .i64 M.s,.slice La.a La.n La.c] 30)).alloc (.cells #[.int .i64 0] 35)) w.heap.size #[.int .i64 M.d,.int .i64 M.h,.int .i64 M.l,.int .i64 M.v,.int .i64 M.u,.int .i64 M.x,.int .i64 M.t,.int .i64 M.n,.slice E.a E.n E.c,.slice L.a L.n L.c,.slice N.a N.n N.c,.slice O.a O.n O.c]:=(Blk.new 27 w _).kept (bNw (bNw (Below.refl _ _) _) _)
 have q2:Blk 30 (((w.alloc (.cells #[.int .i64 M.d,.int .i64 M.h,.int .i64 M.l,.int .i64 M.v,.int .i64 M.u,.int .i64 M.x,.int .i64 M.t,.int .i64 M.n,.slice E.a E.n E.c,.slice L.a L.n L.c,.slice N.a N.n N.c,.slice O.a O.n O.c] 27)).alloc (.cells #[.int .i64 M.r,.int .i64 M.s,.slice La.a La.n La.c] 30)).alloc (.cells #[.int .i64 0] 35)) (w.heap.size+1) #[.int .i64 M.r,.int .i64 M.s,.slice La.a La.n La.c]:=(Blk.new_at 30 (w.alloc _) _ _ (by simp)).kept (bNw (Below.refl _ _) _)
 have q3:Blk 35 (((w.alloc (.cells #[.int .i64 M.d,.int .i64 M.h,.int .i64 M.l,.int .i64 M.v,.int .i64 M.u,.int .i64 M.x,.int .i64 M.t,.int .i64 M.n,.slice E.a E.n E.c,.slice L.a L.n L.c,.slice N.a N.n N.c,.slice O.a O.n O.c] 27)).alloc (.cells #[.int .i64 M.r,.int .i64 M.s,.slice La.a La.n La.c] 30)).alloc (.cells #[.int .i64 0] 35)) (w.heap.size+1+1) #[.int .i64 0]:=Blk.new_at 35 ((w.alloc _).alloc _) _ _ (by simp)
 obtain⟨c0,c1,c2,c3,c4,c5,c6,c7,c8,c9,c10,c11⟩:=q1.c12
 obtain⟨s0,s1,s2⟩:=q2.c3
 have k29:=checked_ok M E L N O Y U D La Ya (((w.alloc (.cells #[.int .i64 M.d,.int .i64 M.h,.int .i64 M.l,.int .i64 M.v,.int .i64 M.u,.int .i64 M.x,.int .i64 M.t,.int .i64 M.n,.slice E.a E.n E.c,.slice L.a L.n L.c,.slice N.a N.n N.c,.slice O.a O.n O.c] 27)).alloc (.cells #[.int .i64 M.r,.int .i64 M.s,.slice La.a La.n La.c] 30)).alloc (.cells #[.int .i64 0] 35)) (hM.below hb0) (hA.below hb0) hE
 go_enter_defers Tryz.func11,Tryz.ntmps11
 go_wp2_with (first
  | (go_at_call 29;refine k29.mono ?_;rintro e W1 ⟨rfl,h1⟩;clear k29;have hb1:=bTn hb0 h1;have Q1:=hdn (q1.kept h1);have Q2:=hdn (q2.kept h1);have Q3:=hdn (q3.kept h1);obtain⟨d0,d1,d2,d3,d4,d5,d6,d7,d8,d9,d10,d11⟩:=Q1.out.c12;obtain⟨t0,t1,t2⟩:=Q2.out.c3;obtain⟨o0,o1,o2,o3,o4,o5,o6,o7,o8,o9,o10,o11⟩:=Q1.out.o12;obtain⟨u0,u1,u2⟩:=Q2.out.o3;have E0:=sSa d0;have E1:=sSa d1;have E2:=sSa d2;have E3:=sSa d3;have E4:=sSa d4;have E5:=sSa d5;have E6:=sSa d6;have E7:=sSa d7;have E8:=sSa d8;have E9:=sSa d9;have E10:=sSa d10;have E11:=sSa d11;have F0:=sSa t0;have F1:=sSa t1;have F2:=sSa t2;clear h1 hb0 q1 q2 q3 c0 c1 c2 c3 c4 c5 c6 c7 c8 c9 c10 c11 s0 s1 s2)
  | (go_at_call 30;refine (k _ hb1).mono ?_;rintro e W2 ⟨⟨a9,m9,c9,b9,j9,k9,rfl,yy⟩,h2⟩;have hb2:=bTn hb1 h2;have z1:=(Q3.out.kept h2).cell 0 (v:=.int .i64 0) rfl;have z2:=(Q3.out.kept h2).open_ 0;have H:=hdn (And.intro yy hb2);clear h2 yy hb2 k))
 refine leaves_cons (f:=27) (args:=#[.pointer (some ⟨w.heap.size+1+1,0,none⟩)]) (by simp) (by simp[go_sem]) ?_
 rw[sSa z1]
 refine (catch_idle27 ⟨w.heap.size+1+1,0,none⟩ 0 _ z1 z2).mono ?_
 rintro e u' w'' ⟨rfl,rfl,rfl⟩
 rw[sSa z1]
 simp[Leaves,settle,results,Tryz.results11,go_sem,z1]
 exact⟨⟨a9,m9,c9,b9,j9,k9,⟨⟨rfl,rfl,rfl⟩,⟨rfl,rfl,rfl⟩⟩,H.out.1⟩,H.out.2⟩
theorem Step_inner (M:Md)(E L N O:SL)(Y U D:Nat→Nat→SL)(La:SL)(Ya:Nat→Nat→SL)(w:World)(hM:ModAt w E L N O Y U D M.m)(hA:AdAt w La Ya M.a)(pa:Option Addr)(n pc:Nat)(p tok:Int)(RP:World→Option Addr→Nat→Nat→Option Addr→Nat→Nat→Prop)(n9:Int)(hE:badE M=0)(k:∀ W,Below w.heap.size w W→Calls Tryz.prog 30 #[.agg #[.int .i64 M.d,.int .i64 M.h,.int .i64 M.l,.int .i64 M.v,.int .i64 M.u,.int .i64 M.x,.int .i64 M.t,.int .i64 M.n,.slice E.a E.n E.c,.slice L.a L.n L.c,.slice N.a N.n N.c,.slice O.a O.n O.c],.agg #[.int .i64 M.r,.int .i64 M.s,.slice La.a La.n La.c],.slice pa n pc,.int .i64 p,.int .i64 tok] W fun e w'=>e=.panicked [{ v:=.iface 35 (.int .i64 n9),recovered:=false }]∧Below W.heap.size W w') :
  Calls Tryz.prog 11 #[.agg #[.int .i64 M.d,.int .i64 M.h,.int .i64 M.l,.int .i64 M.v,.int .i64 M.u,.int .i64 M.x,.int .i64 M.t,.int .i64 M.n,.slice E.a E.n E.c,.slice L.a L.n L.c,.slice N.a N.n N.c,.slice O.a O.n O.c],.agg #[.int .i64 M.r,.int .i64 M.s,.slice La.a La.n La.c],.slice pa n pc,.int .i64 p,.int .i64 tok] w fun e w'=>e=.returned (.tuple #[.slice none 0 0,.slice none 0 0,.int .i64 n9])∧Below w.heap.size w w':=by
 have hmf:∀ (fn:Fn) (first cap:Array Value) (w:World),(Instr.makeFunc fn first cap).run Tryz.prog w=.ok (.func fn first cap) w:=fun _ _ _ _=>rfl
 have hb0:=bNw (bNw (bNw (Below.refl w.heap.size w) (.cells #[.int .i64 M.d,.int .i64 M.h,.int .i64 M.l,.int .i64 M.v,.int .i64 M.u,.int .i64 M.x,.int .i64 M.t,.int .i64 M.n,.slice E.a E.n E.c,.slice L.a L.n L.c,.slice N.a N.n N.c,.slice O.a O.n O.c] 27)) (.cells #[.int .i64 M.r,.int .i64 M.s,.slice La.a La.n La.c] 30)) (.cells #[.int .i64 0] 35)
 have q1:Blk 27 (((w.alloc (.cells #[.int .i64 M.d,.int .i64 M.h,.int .i64 M.l,.int .i64 M.v,.int .i64 M.u,.int .i64 M.x,.int .i64 M.t,.int .i64 M.n,.slice E.a E.n E.c,.slice L.a L.n L.c,.slice N.a N.n N.c,.slice O.a O.n O.c] 27)).alloc (.cells #[.int .i64 M.r,.int .i64 M.s,.slice La.a La.n La.c] 30)).alloc (.cells #[.int .i64 0] 35)) w.heap.size #[.int .i64 M.d,.int .i64 M.h,.int .i64 M.l,.int .i64 M.v,.int .i64 M.u,.int .i64 M.x,.int .i64 M.t,.int .i64 M.n,.slice E.a E.n E.c,.slice L.a L.n L.c,.slice N.a N.n N.c,.slice O.a O.n O.c]:=(Blk.new 27 w _).kept (bNw (bNw (Below.refl _ _) _) _)
 have q2:Blk 30 (((w.alloc (.cells #[.int .i64 M.d,.int .i64 M.h,.int .i64 M.l,.int .i64 M.v,.int .i64 M.u,.int .i64 M.x,.int .i64 M.t,.int .i64 M.n,.slice E.a E.n E.c,.slice L.a L.n L.c,.slice N.a N.n N.c,.slice O.a O.n O.c] 27)).alloc (.cells #[.int .i64 M.r,.int .i64 M.s,.slice La.a La.n La.c] 30)).alloc (.cells #[.int .i64 0] 35)) (w.heap.size+1) #[.int .i64 M.r,.int .i64 M.s,.slice La.a La.n La.c]:=(Blk.new_at 30 (w.alloc _) _ _ (by simp)).kept (bNw (Below.refl _ _) _)
 have q3:Blk 35 (((w.alloc (.cells #[.int .i64 M.d,.int .i64 M.h,.int .i64 M.l,.int .i64 M.v,.int .i64 M.u,.int .i64 M.x,.int .i64 M.t,.int .i64 M.n,.slice E.a E.n E.c,.slice L.a L.n L.c,.slice N.a N.n N.c,.slice O.a O.n O.c] 27)).alloc (.cells #[.int .i64 M.r,.int .i64 M.s,.slice La.a La.n La.c] 30)).alloc (.cells #[.int .i64 0] 35)) (w.heap.size+1+1) #[.int .i64 0]:=Blk.new_at 35 ((w.alloc _).alloc _) _ _ (by simp)
 obtain⟨c0,c1,c2,c3,c4,c5,c6,c7,c8,c9,c10,c11⟩:=q1.c12
 obtain⟨s0,s1,s2⟩:=q2.c3
 have k29:=checked_ok M E L N O Y U D La Ya (((w.alloc (.cells #[.int .i64 M.d,.int .i64 M.h,.int .i64 M.l,.int .i64 M.v,.int .i64 M.u,.int .i64 M.x,.int .i64 M.t,.int .i64 M.n,.slice E.a E.n E.c,.slice L.a L.n L.c,.slice N.a N.n N.c,.slice O.a O.n O.c] 27)).alloc (.cells #[.int .i64 M.r,.int .i64 M.s,.slice La.a La.n La.c] 30)).alloc (.cells #[.int .i64 0] 35)) (hM.below hb0) (hA.below hb0) hE
 go_enter_defers Tryz.func11,Tryz.ntmps11
 go_wp2_with (first
  | (go_at_call 29;refine k29.mono ?_;rintro e W1 ⟨rfl,h1⟩;clear k29;have hb1:=bTn hb0 h1;have Q1:=hdn (q1.kept h1);have Q2:=hdn (q2.kept h1);have Q3:=hdn (q3.kept h1);obtain⟨d0,d1,d2,d3,d4,d5,d6,d7,d8,d9,d10,d11⟩:=Q1.out.c12;obtain⟨t0,t1,t2⟩:=Q2.out.c3;obtain⟨o0,o1,o2,o3,o4,o5,o6,o7,o8,o9,o10,o11⟩:=Q1.out.o12;obtain⟨u0,u1,u2⟩:=Q2.out.o3;have E0:=sSa d0;have E1:=sSa d1;have E2:=sSa d2;have E3:=sSa d3;have E4:=sSa d4;have E5:=sSa d5;have E6:=sSa d6;have E7:=sSa d7;have E8:=sSa d8;have E9:=sSa d9;have E10:=sSa d10;have E11:=sSa d11;have F0:=sSa t0;have F1:=sSa t1;have F2:=sSa t2;clear h1 hb0 q1 q2 q3 c0 c1 c2 c3 c4 c5 c6 c7 c8 c9 c10 c11 s0 s1 s2)
  | (go_at_call 30;refine (k _ hb1).mono ?_;rintro e W2 ⟨rfl,h2⟩;have hb2:=bTn hb1 h2;have z1:=(Q3.out.kept h2).cell 0 (v:=.int .i64 0) rfl;have z2:=(Q3.out.kept h2).open_ 0;clear h2 k))
 refine leaves_cons (f:=27) (args:=#[.pointer (some ⟨w.heap.size+1+1,0,none⟩)]) (by simp) (by simp[go_sem]) ?_
 refine (catch_panic27 ⟨w.heap.size+1+1,0,none⟩ 0 n9 [] _ z1 z2).mono ?_
 rintro e u' w'' ⟨rfl,rfl,rfl⟩
 have z3:(W2.setCell ⟨w.heap.size+1+1,0,none⟩ (.int .i64 n9)).cell? ⟨w.heap.size+1+1,0,none⟩=some (.int .i64 n9):=World.cell?_setCell_same _ _ _ z1
 have H':Below w.heap.size w (W2.setCell ⟨w.heap.size+1+1,0,none⟩ (.int .i64 n9)):=hb2.setCell (by show w.heap.size≤w.heap.size+1+1;omega) _
 generalize (W2.setCell ⟨w.heap.size+1+1,0,none⟩ (.int .i64 n9))=W9 at z3 H' ⊢
 simp[Leaves,settle,results,Tryz.results11,go_sem,z3]
 exact H'
theorem Step_bad (M:Md)(E L N O:SL)(Y U D:Nat→Nat→SL)(La:SL)(Ya:Nat→Nat→SL)(w:World)(hM:ModAt w E L N O Y U D M.m)(hA:AdAt w La Ya M.a)(pa:Option Addr)(n pc:Nat)(p tok:Int)(RP:World→Option Addr→Nat→Nat→Option Addr→Nat→Nat→Prop)(hE:¬badE M=0) :
  Calls Tryz.prog 11 #[.agg #[.int .i64 M.d,.int .i64 M.h,.int .i64 M.l,.int .i64 M.v,.int .i64 M.u,.int .i64 M.x,.int .i64 M.t,.int .i64 M.n,.slice E.a E.n E.c,.slice L.a L.n L.c,.slice N.a N.n N.c,.slice O.a O.n O.c],.agg #[.int .i64 M.r,.int .i64 M.s,.slice La.a La.n La.c],.slice pa n pc,.int .i64 p,.int .i64 tok] w fun e w'=>e=.returned (.tuple #[.slice none 0 0,.slice none 0 0,.int .i64 (badE M)])∧Below w.heap.size w w':=by
 have hmf:∀ (fn:Fn) (first cap:Array Value) (w:World),(Instr.makeFunc fn first cap).run Tryz.prog w=.ok (.func fn first cap) w:=fun _ _ _ _=>rfl
 have hb0:=bNw (bNw (bNw (Below.refl w.heap.size w) (.cells #[.int .i64 M.d,.int .i64 M.h,.int .i64 M.l,.int .i64 M.v,.int .i64 M.u,.int .i64 M.x,.int .i64 M.t,.int .i64 M.n,.slice E.a E.n E.c,.slice L.a L.n L.c,.slice N.a N.n N.c,.slice O.a O.n O.c] 27)) (.cells #[.int .i64 M.r,.int .i64 M.s,.slice La.a La.n La.c] 30)) (.cells #[.int .i64 0] 35)
 have q1:Blk 27 (((w.alloc (.cells #[.int .i64 M.d,.int .i64 M.h,.int .i64 M.l,.int .i64 M.v,.int .i64 M.u,.int .i64 M.x,.int .i64 M.t,.int .i64 M.n,.slice E.a E.n E.c,.slice L.a L.n L.c,.slice N.a N.n N.c,.slice O.a O.n O.c] 27)).alloc (.cells #[.int .i64 M.r,.int .i64 M.s,.slice La.a La.n La.c] 30)).alloc (.cells #[.int .i64 0] 35)) w.heap.size #[.int .i64 M.d,.int .i64 M.h,.int .i64 M.l,.int .i64 M.v,.int .i64 M.u,.int .i64 M.x,.int .i64 M.t,.int .i64 M.n,.slice E.a E.n E.c,.slice L.a L.n L.c,.slice N.a N.n N.c,.slice O.a O.n O.c]:=(Blk.new 27 w _).kept (bNw (bNw (Below.refl _ _) _) _)
 have q2:Blk 30 (((w.alloc (.cells #[.int .i64 M.d,.int .i64 M.h,.int .i64 M.l,.int .i64 M.v,.int .i64 M.u,.int .i64 M.x,.int .i64 M.t,.int .i64 M.n,.slice E.a E.n E.c,.slice L.a L.n L.c,.slice N.a N.n N.c,.slice O.a O.n O.c] 27)).alloc (.cells #[.int .i64 M.r,.int .i64 M.s,.slice La.a La.n La.c] 30)).alloc (.cells #[.int .i64 0] 35)) (w.heap.size+1) #[.int .i64 M.r,.int .i64 M.s,.slice La.a La.n La.c]:=(Blk.new_at 30 (w.alloc _) _ _ (by simp)).kept (bNw (Below.refl _ _) _)
 have q3:Blk 35 (((w.alloc (.cells #[.int .i64 M.d,.int .i64 M.h,.int .i64 M.l,.int .i64 M.v,.int .i64 M.u,.int .i64 M.x,.int .i64 M.t,.int .i64 M.n,.slice E.a E.n E.c,.slice L.a L.n L.c,.slice N.a N.n N.c,.slice O.a O.n O.c] 27)).alloc (.cells #[.int .i64 M.r,.int .i64 M.s,.slice La.a La.n La.c] 30)).alloc (.cells #[.int .i64 0] 35)) (w.heap.size+1+1) #[.int .i64 0]:=Blk.new_at 35 ((w.alloc _).alloc _) _ _ (by simp)
 obtain⟨c0,c1,c2,c3,c4,c5,c6,c7,c8,c9,c10,c11⟩:=q1.c12
 obtain⟨s0,s1,s2⟩:=q2.c3
 have k29:=checked_err M E L N O Y U D La Ya (((w.alloc (.cells #[.int .i64 M.d,.int .i64 M.h,.int .i64 M.l,.int .i64 M.v,.int .i64 M.u,.int .i64 M.x,.int .i64 M.t,.int .i64 M.n,.slice E.a E.n E.c,.slice L.a L.n L.c,.slice N.a N.n N.c,.slice O.a O.n O.c] 27)).alloc (.cells #[.int .i64 M.r,.int .i64 M.s,.slice La.a La.n La.c] 30)).alloc (.cells #[.int .i64 0] 35)) (hM.below hb0) (hA.below hb0) hE
 obtain⟨n9,e9⟩:∃ n9,badE M=n9:=⟨_,rfl⟩
 rw[e9] at k29 ⊢
 go_enter_defers Tryz.func11,Tryz.ntmps11
 go_wp2_with (go_at_call 29;refine k29.mono ?_;rintro e W1 ⟨rfl,h1⟩;clear k29;have hb1:=bTn hb0 h1;have z1:=(q3.kept h1).cell 0 (v:=.int .i64 0) rfl;have z2:=(q3.kept h1).open_ 0;clear h1 hb0 q1 q2 q3)
 refine leaves_cons (f:=27) (args:=#[.pointer (some ⟨w.heap.size+1+1,0,none⟩)]) (by simp) (by simp[go_sem]) ?_
 refine (catch_panic27 ⟨w.heap.size+1+1,0,none⟩ 0 n9 [] _ z1 z2).mono ?_
 rintro e u' w'' ⟨rfl,rfl,rfl⟩
 have z3:(W1.setCell ⟨w.heap.size+1+1,0,none⟩ (.int .i64 n9)).cell? ⟨w.heap.size+1+1,0,none⟩=some (.int .i64 n9):=World.cell?_setCell_same _ _ _ z1
 have H':Below w.heap.size w (W1.setCell ⟨w.heap.size+1+1,0,none⟩ (.int .i64 n9)):=hb1.setCell (by show w.heap.size≤w.heap.size+1+1;omega) _
 generalize (W1.setCell ⟨w.heap.size+1+1,0,none⟩ (.int .i64 n9))=W9 at z3 H' ⊢
 simp[Leaves,settle,results,Tryz.results11,go_sem,z3]
 exact H'
end Go.Proofs.YthliomlmhfjhnaaGreat
