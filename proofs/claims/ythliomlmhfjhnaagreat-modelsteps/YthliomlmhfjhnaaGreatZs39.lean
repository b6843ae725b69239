/- Texts put together. -/
import Derived.Test.YthliomlmhfjhnaaGreatZs38
namespace Go.Proofs.YthliomlmhfjhnaaGreat
set_option maxRecDepth 20000
set_option maxHeartbeats 16000000
open Go.ChangeShapes Go.WideShapes Go.ChangeAt Go.RowKit
set_option linter.unusedVariables false
set_option linter.unusedSimpArgs false
section
open Go.ChangeShapes Go.WideShapes Go.ChangeAt Go.RowKit Go.Sort
theorem same_walk (d h l v u x t n:Int)(E N O E' N' O':SL)(La La':Option Addr)(ml Lc Lc':Nat)(L L':SL)(Y U D Y' U' D':Nat→Nat→SL)(m:ModV)(w:World)(hA:ModAt w E L N O Y U D m)(hB:ModAt w E' L' N' O' Y' U' D' m)
  (e1:L.a=La) (e2:L'.a=La') (hml:m.ln=ml) (hu:ml≤4611686018427387904) (hun:∀ i,i<ml→m.un i≤9223372036854775807∧m.dn i≤9223372036854775807) :
  Calls Tryz.prog 17 #[.agg #[.int .i64 d,.int .i64 h,.int .i64 l,.int .i64 v,.int .i64 u,.int .i64 x,.int .i64 t,.int .i64 n,.slice E.a E.n E.c,.slice La ml Lc,.slice N.a N.n N.c,.slice O.a O.n O.c],.agg #[.int .i64 d,.int .i64 h,.int .i64 l,.int .i64 v,.int .i64 u,.int .i64 x,.int .i64 t,.int .i64 n,.slice E'.a E'.n E'.c,.slice La' ml Lc',.slice N'.a N'.n N'.c,.slice O'.a O'.n O'.c]] w fun e w'=>e=.returned (.bool true)∧Below w.heap.size w w':=by
 obtain⟨W0,eW⟩:∃ W0,(w.alloc (.cells #[.int .i64 d,.int .i64 h,.int .i64 l,.int .i64 v,.int .i64 u,.int .i64 x,.int .i64 t,.int .i64 n,.slice E.a E.n E.c,.slice La ml Lc,.slice N.a N.n N.c,.slice O.a O.n O.c] 27)).alloc (.cells #[.int .i64 d,.int .i64 h,.int .i64 l,.int .i64 v,.int .i64 u,.int .i64 x,.int .i64 t,.int .i64 n,.slice E'.a E'.n E'.c,.slice La' ml Lc',.slice N'.a N'.n N'.c,.slice O'.a O'.n O'.c] 27)=W0:=⟨_,rfl⟩
 have hb:Below w.heap.size w W0:=eW ▸ bNw (bNw (Below.refl _ w) _) _
 have qa:Blk 27 W0 w.heap.size #[.int .i64 d,.int .i64 h,.int .i64 l,.int .i64 v,.int .i64 u,.int .i64 x,.int .i64 t,.int .i64 n,.slice E.a E.n E.c,.slice La ml Lc,.slice N.a N.n N.c,.slice O.a O.n O.c]:=eW ▸ (Blk.new 27 w _).kept (bNw (Below.refl _ _) _)
 have qb:Blk 27 W0 (w.heap.size+1) #[.int .i64 d,.int .i64 h,.int .i64 l,.int .i64 v,.int .i64 u,.int .i64 x,.int .i64 t,.int .i64 n,.slice E'.a E'.n E'.c,.slice La' ml Lc',.slice N'.a N'.n N'.c,.slice O'.a O'.n O'.c]:=eW ▸ Blk.new_at 27 (w.alloc _) _ _ (by simp)
 replace hA:=hA.below hb
 replace hB:=hB.below hb
 have EW:=hdn eW
 have HA:=hdn hA
 have HB:=hdn hB
 have QA:=hdn qa
 have QB:=hdn qb
 obtain⟨a0,a1,a2,a3,a4,a5,a6,a7,a8,a9,a10,a11⟩:=qa.c12
 obtain⟨b0,b1,b2,b3,b4,b5,b6,b7,b8,b9,b10,b11⟩:=qb.c12
 have neq:=cfg_neq d h l v u x t n
 have ke:Hid (∀ W,(∃ m,W=W0.drewN m)→Calls Tryz.prog 37 #[.slice E.a E.n E.c,.slice E'.a E'.n E'.c] W fun e w'=>e=.returned (.bool true)∧∃ m,w'=W.drewN m):=fun W hW=>(drew_is hW hA.e).same (drew_is hW hB.e) _ _
 have kn:Hid (∀ W,(∃ m,W=W0.drewN m)→Calls Tryz.prog 37 #[.slice N.a N.n N.c,.slice N'.a N'.n N'.c] W fun e w'=>e=.returned (.bool true)∧∃ m,w'=W.drewN m):=fun W hW=>(drew_is hW hA.nm).same (drew_is hW hB.nm) _ _
 have ko:Hid (∀ W,(∃ m,W=W0.drewN m)→Calls Tryz.prog 37 #[.slice O.a O.n O.c,.slice O'.a O'.n O'.c] W fun e w'=>e=.returned (.bool true)∧∃ m,w'=W.drewN m):=fun W hW=>(drew_is hW hA.o).same (drew_is hW hB.o) _ _
 have HW:Hid (∃ m,W0=W0.drewN m):=⟨0,rfl⟩
 have HL:=hdn (And.intro e1 e2)
 have HM:=hdn hml
 have HU:=hdn hun
 have HBW:=hdn hb
 clear eW hA hB qa qb e1 e2 hml hun hb
 go_enter Tryz.func17,Tryz.ntmps17
 go_wp2_with fail
 rw[EW.out]
 clear EW
 go_wp2_with (first
  | (go_at_call_of 37 E;refine (ke.out _ HW.out).mono ?_;rintro e W5 ⟨rfl,h5⟩;replace HW:=hdn (drew_then HW.out h5);clear h5 ke a0 a1 a2 a3 a4 a5 a6 a7 a8 a9 a10 a11 b0 b1 b2 b3 b4 b5 b6 b7 b8 b9 b10 b11;obtain⟨a0,a1,a2,a3,a4,a5,a6,a7,a8,a9,a10,a11⟩:=(drew_blk HW.out QA.out).c12;obtain⟨b0,b1,b2,b3,b4,b5,b6,b7,b8,b9,b10,b11⟩:=(drew_blk HW.out QB.out).c12)
  | (go_at_call 37;refine (kn.out _ HW.out).mono ?_;rintro e W5 ⟨rfl,h5⟩;replace HW:=hdn (drew_then HW.out h5);clear h5 kn a0 a1 a2 a3 a4 a5 a6 a7 a8 a9 a10 a11 b0 b1 b2 b3 b4 b5 b6 b7 b8 b9 b10 b11;obtain⟨a0,a1,a2,a3,a4,a5,a6,a7,a8,a9,a10,a11⟩:=(drew_blk HW.out QA.out).c12;obtain⟨b0,b1,b2,b3,b4,b5,b6,b7,b8,b9,b10,b11⟩:=(drew_blk HW.out QB.out).c12)
  | (go_at_call 37;refine (ko.out _ HW.out).mono ?_;rintro e W5 ⟨rfl,h5⟩;replace HW:=hdn (drew_then HW.out h5);clear h5 ko a0 a1 a2 a3 a4 a5 a6 a7 a8 a9 a10 a11 b0 b1 b2 b3 b4 b5 b6 b7 b8 b9 b10 b11;obtain⟨a0,a1,a2,a3,a4,a5,a6,a7,a8,a9,a10,a11⟩:=(drew_blk HW.out QA.out).c12;obtain⟨b0,b1,b2,b3,b4,b5,b6,b7,b8,b9,b10,b11⟩:=(drew_blk HW.out QB.out).c12))
 clear a0 a1 a2 a3 a4 a5 a6 a7 a8 a9 a10 a11 b0 b1 b2 b3 b4 b5 b6 b7 b8 b9 b10 b11 neq
 go_loopw [5] (fun i wr=>∃ k:Nat,k≤ml∧i=.int .i64 k∧Below W0.heap.size W0 wr) (fun i _=>ml-(intOf i).toNat)
 case atStart=>exact⟨0,Nat.zero_le _,rfl,bDr (Below.refl _ _) HW.out⟩
 case round =>
  clear HW
  obtain⟨k,hk,rfl,hbr⟩:=hrel
  obtain⟨a0,a1,a2,a3,a4,a5,a6,a7,a8,a9,a10,a11⟩:=(QA.out.kept hbr).c12
  obtain⟨b0,b1,b2,b3,b4,b5,b6,b7,b8,b9,b10,b11⟩:=(QB.out.kept hbr).c12
  by_cases hlt:k<ml
  ·have hMa:=HA.out.below hbr
   have hMb:=HB.out.below hbr
   have hkm:k<m.ln:=by rw[HM.out];exact hlt
   obtain⟨x0,hx0⟩:=hMa.some_ (by omega)
   obtain⟨y0,hy0⟩:=hMb.some_ (by omega)
   have la:=hMa.lay k hkm
   have lb:=hMb.lay k hkm
   obtain⟨P,eP,p0,p1,p2,p3,p4,p5,p6,p7,p8⟩:=at_nine (fun j hj=>hMa.cell x0 hx0 k hkm j hj)
   obtain⟨R,eR,r0,r1,r2,r3,r4,r5,r6,r7,r8⟩:=at_nine (fun j hj=>hMb.cell y0 hy0 k hkm j hj)
   obtain rfl:La=some x0:=HL.out.1.symm.trans hx0
   obtain rfl:La'=some y0:=HL.out.2.symm.trans hy0
   rw[la.u.len] at p7
   rw[la.d.len] at p8
   rw[lb.u.len] at r7
   rw[lb.d.len] at r8
   have hun:=HU.out k hlt
   have k46:∀ d' os,Calls Tryz.prog 38 #[.agg #[.slice (Y k 0).a (Y k 0).n (Y k 0).c,.slice (Y k 1).a (Y k 1).n (Y k 1).c,.slice (Y k 2).a (Y k 2).n (Y k 2).c,.slice (Y k 3).a (Y k 3).n (Y k 3).c,.slice (Y k 4).a (Y k 4).n (Y k 4).c,.slice (Y k 5).a (Y k 5).n (Y k 5).c,.slice (Y k 6).a (Y k 6).n (Y k 6).c,.slice (Y k 7).a (m.un k) (Y k 7).c,.slice (Y k 8).a (m.dn k) (Y k 8).c],.agg #[.slice (Y' k 0).a (Y' k 0).n (Y' k 0).c,.slice (Y' k 1).a (Y' k 1).n (Y' k 1).c,.slice (Y' k 2).a (Y' k 2).n (Y' k 2).c,.slice (Y' k 3).a (Y' k 3).n (Y' k 3).c,.slice (Y' k 4).a (Y' k 4).n (Y' k 4).c,.slice (Y' k 5).a (Y' k 5).n (Y' k 5).c,.slice (Y' k 6).a (Y' k 6).n (Y' k 6).c,.slice (Y' k 7).a (m.un k) (Y' k 7).c,.slice (Y' k 8).a (m.dn k) (Y' k 8).c]] (grow (redrawn wr d') os) fun e w''=>e=.returned (.bool true)∧∃ p:Regrown,w''=grow (redrawn wr p.d) p.os:=fun d' os =>
    Calls.regrown_of (sameLayer_walk _ _ _ _ _ _ _ _ _ _ _ _ (la.below (below_regrown wr d' os)) (lb.below (below_regrown wr d' os)) hun.1 hun.2)
   have hlt':(k:Int)<(ml:Int):=by omega
   clear la lb hMa hMb hun HA HB
   go_wp2
   replace a9:=cell_regrown a9
   replace b9:=cell_regrown b9
   replace p0:=cell_regrown p0
   replace p1:=cell_regrown p1
   replace p2:=cell_regrown p2
   replace p3:=cell_regrown p3
   replace p4:=cell_regrown p4
   replace p5:=cell_regrown p5
   replace p6:=cell_regrown p6
   replace p7:=cell_regrown p7
   replace p8:=cell_regrown p8
   replace r0:=cell_regrown r0
   replace r1:=cell_regrown r1
   replace r2:=cell_regrown r2
   replace r3:=cell_regrown r3
   replace r4:=cell_regrown r4
   replace r5:=cell_regrown r5
   replace r6:=cell_regrown r6
   replace r7:=cell_regrown r7
   replace r8:=cell_regrown r8
   refine wp_region_quiet_below (by kernel_rfl) (by kernel_rfl) ?_
   repeat (go_big_quiet_step (first|(go_at_call 38;exact k46 _ _)))
   refine wpQuiet_nil ?_
   intro _ hw'
   obtain⟨⟨dq,osq⟩,hw''⟩:=hw'
   subst hw''
   have hbq:=bTn hbr (below_regrown wr dq osq)
   clear k46 a0 a1 a2 a3 a4 a5 a6 a7 a8 a9 a10 a11 b0 b1 b2 b3 b4 b5 b6 b7 b8 b9 b10 b11 p0 p1 p2 p3 p4 p5 p6 p7 p8 r0 r1 r2 r3 r4 r5 r6 r7 r8
   go_wp2
   go_roundw
   case rel=>exact⟨k+1,by omega,by go_num,hbq⟩
   case measure=>simp[intOf];omega
  ·have e:k=ml:=by omega
   subst e
   go_wp2
   go_ret
   exact⟨rfl,bTn HBW.out hbr⟩
theorem sameM_call (d h l v u x t n:Int)(E L N O E' L' N' O':SL)(Y U D Y' U' D':Nat→Nat→SL)(m:ModV)(w:World)(hA:ModAt w E L N O Y U D m)(hB:ModAt w E' L' N' O' Y' U' D' m)(hu:m.ln≤4611686018427387904)
  (hun:∀ i,i<m.ln→m.un i≤9223372036854775807∧m.dn i≤9223372036854775807) :
  Calls Tryz.prog 17 #[.agg #[.int .i64 d,.int .i64 h,.int .i64 l,.int .i64 v,.int .i64 u,.int .i64 x,.int .i64 t,.int .i64 n,.slice E.a E.n E.c,.slice L.a L.n L.c,.slice N.a N.n N.c,.slice O.a O.n O.c],.agg #[.int .i64 d,.int .i64 h,.int .i64 l,.int .i64 v,.int .i64 u,.int .i64 x,.int .i64 t,.int .i64 n,.slice E'.a E'.n E'.c,.slice L'.a L'.n L'.c,.slice N'.a N'.n N'.c,.slice O'.a O'.n O'.c]] w fun e w'=>e=.returned (.bool true)∧Below w.heap.size w w':=by
 have:=same_walk d h l v u x t n E N O E' N' O' L.a L'.a m.ln L.c L'.c L L' Y U D Y' U' D' m w hA hB rfl rfl rfl hu hun
 rw[hA.len,hB.len]
 exact this
end
def ms6D (i:Nat):Option Nat:=match i with|0=>some 59|1=>some 60|2=>some 61|3=>some 62|4=>some 63|5=>some 64|6=>some 65|7=>some 66|8=>some 67|9=>some 68|10=>some 69|11=>some 70|12=>some 71|13=>some 72|14=>some 73|15=>some 74|16=>some 75|17=>some 76|18=>some 77|19=>some 78|20=>some 79|21=>some 80|22=>some 81|23=>some 82|24=>some 83|25=>some 84|26=>some 85|27=>some 86|28=>some 87|29=>some 88|30=>some 89|31=>some 90|32=>some 10|_=>none
theorem ms6D_inj:∀ i,i<33→∀ j,j<33→ms6D i=ms6D j→ms6D i≠none→i=j:=by decide
theorem ms6D_lt:∀ i,i<33→∀ d,ms6D i=some d→d<91:=by
 intro i hi d h
 have:∀ i,i<33→(ms6D i).all (fun d=>decide (d<91))=true:=by decide
 have:=this i hi
 rw[h] at this
 simpa using this
def ms6F (M:Md)(E L N O La E2 L2 N2 O2 La2:SL)(mb ab mo ao rm om rc sc oc uc:Nat)(ra sa oa ua:Option Addr)(ee wd:Int)(i:Nat)(q:Value)(w:World):Prop:=match i with
 | 0=>q=.slice ra rm rc
 | 1=>q=.slice sa rm sc
 | 2=>q=.bool true
 | 3=>q=.bool true
 | 4=>q=.slice oa om oc
 | 5=>q=.slice ua om uc
 | 6=>q=.bool true
 | 7=>q=.bool true
 | 8=>q=.bool true
 | 9=>q=.int .i64 ee
 | 10=>q=.int .i64 ee
 | 11=>q=.bool true
 | 12=>q=.bool true
 | 13=>q=.bool true
 | 14=>q=.pointer (some ⟨mb,0,none⟩)
 | 15=>q=.agg #[.int .i64 M.d,.int .i64 M.h,.int .i64 M.l,.int .i64 M.v,.int .i64 M.u,.int .i64 M.x,.int .i64 M.t,.int .i64 M.n]
 | 16=>q=.int .i64 wd
 | 17=>q=.pointer (some ⟨mb,0,none⟩)
 | 18=>q=.agg #[.int .i64 M.d,.int .i64 M.h,.int .i64 M.l,.int .i64 M.v,.int .i64 M.u,.int .i64 M.x,.int .i64 M.t,.int .i64 M.n]
 | 19=>q=.int .i64 wd
 | 20=>q=.bool true
 | 21=>q=.bool true
 | 22=>q=.bool true
 | 23=>q=.agg #[.int .i64 M.d,.int .i64 M.h,.int .i64 M.l,.int .i64 M.v,.int .i64 M.u,.int .i64 M.x,.int .i64 M.t,.int .i64 M.n,.slice E2.a E2.n E2.c,.slice L2.a L2.n L2.c,.slice N2.a N2.n N2.c,.slice O2.a O2.n O2.c]
 | 24=>q=.agg #[.int .i64 M.d,.int .i64 M.h,.int .i64 M.l,.int .i64 M.v,.int .i64 M.u,.int .i64 M.x,.int .i64 M.t,.int .i64 M.n,.slice E.a E.n E.c,.slice L.a L.n L.c,.slice N.a N.n N.c,.slice O.a O.n O.c]
 | 25=>q=.bool true
 | 26=>q=.bool true
 | 27=>q=.bool true
 | 28=>q=.agg #[.int .i64 M.r,.int .i64 M.s,.slice La2.a La2.n La2.c]
 | 29=>q=.agg #[.int .i64 M.r,.int .i64 M.s,.slice La.a La.n La.c]
 | 30=>q=.bool true
 | 31=>q=.bool true
 | 32=>q=.bool true
 | _=>True
theorem ms6F_below {M:Md}{E L N O La E2 L2 N2 O2 La2:SL}{mb ab mo ao rm om rc sc oc uc:Nat}{ra sa oa ua:Option Addr}{ee wd:Int}{i:Nat}{q:Value}{w w':World}(h:ms6F M E L N O La E2 L2 N2 O2 La2 mb ab mo ao rm om rc sc oc uc ra sa oa ua ee wd i q w)(hb:Below w.heap.size w w'):ms6F M E L N O La E2 L2 N2 O2 La2 mb ab mo ao rm om rc sc oc uc ra sa oa ua ee wd i q w':=by
 unfold ms6F at h ⊢
 split
 ·exact h
 ·exact h
 ·exact h
 ·exact h
 ·exact h
 ·exact h
 ·exact h
 ·exact h
 ·exact h
 ·exact h
 ·exact h
 ·exact h
 ·exact h
 ·exact h
 ·exact h
 ·exact h
 ·exact h
 ·exact h
 ·exact h
 ·exact h
 ·exact h
 ·exact h
 ·exact h
 ·exact h
 ·exact h
 ·exact h
 ·exact h
 ·exact h
 ·exact h
 ·exact h
 ·exact h
 ·exact h
 ·exact h
 ·trivial
theorem ms6_region {id:Nat}{ops:Array Oper}{Q:Exit→Act→World→Prop}{a0:Act}{w0:World}(M:Md)(E L N O La E2 L2 N2 O2 La2:SL)(mb ab mo ao rm om rc sc oc uc:Nat)(ra sa oa ua:Option Addr)(ee wd:Int)(S:World→Prop)(hlow:lowB ops=true)(hsz:ops.size=33)
  (o0:OpIn ops 0 (some 59) (.move (.tmp 13)) none []) (o1:OpIn ops 1 (some 60) (.move (.tmp 16)) none []) (o2:OpIn ops 2 (some 61) (.call { callee:=.value (.func 14),args:=#[.tmp 59,.tmp 60],argTypes:=#[34,34] }) none [0,1]) (o3:OpIn ops 3 (some 62) (.move (.tmp 61)) none [2]) (o4:OpIn ops 4 (some 63) (.move (.tmp 14)) (some (3,true)) [3]) (o5:OpIn ops 5 (some 64) (.move (.tmp 17)) (some (3,true)) [3]) (o6:OpIn ops 6 (some 65) (.call { callee:=.value (.func 14),args:=#[.tmp 63,.tmp 64],argTypes:=#[34,34] }) (some (3,true)) [3,4,5]) (o7:OpIn ops 7 (some 66) (.pick (.tmp 62) (.tmp 65) (.const (.bool false))) none [3,6]) (o8:OpIn ops 8 (some 67) (.move (.tmp 66)) none [7]) (o9:OpIn ops 9 (some 68) (.move (.tmp 15)) (some (8,true)) [8]) (o10:OpIn ops 10 (some 69) (.move (.tmp 18)) (some (8,true)) [8]) (o11:OpIn ops 11 (some 70) (.binOp .eql 35 (.tmp 68) (.tmp 69) 35) (some (8,true)) [8,9,10]) (o12:OpIn ops 12 (some 71) (.pick (.tmp 67) (.tmp 70) (.const (.bool false))) none [8,11]) (o13:OpIn ops 13 (some 72) (.move (.tmp 71)) none [12]) (o14:OpIn ops 14 (some 73) (.fieldAddr 27 (.tmp 5) 0) (some (13,true)) [13]) (o15:OpIn ops 15 (some 74) (.load 23 (.tmp 73)) (some (13,true)) [13,14]) (o16:OpIn ops 16 (some 75) (.call { callee:=.value (.func 15),args:=#[.tmp 74],argTypes:=#[23] }) (some (13,true)) [13,15]) (o17:OpIn ops 17 (some 76) (.fieldAddr 27 (.tmp 5) 0) (some (13,true)) [13]) (o18:OpIn ops 18 (some 77) (.load 23 (.tmp 76)) (some (13,true)) [13,17]) (o19:OpIn ops 19 (some 78) (.call { callee:=.value (.func 16),args:=#[.tmp 77],argTypes:=#[23] }) (some (13,true)) [13,18]) (o20:OpIn ops 20 (some 79) (.binOp .eql 3 (.tmp 75) (.tmp 78) 3) (some (13,true)) [13,16,19]) (o21:OpIn ops 21 (some 80) (.pick (.tmp 72) (.tmp 79) (.const (.bool false))) none [13,20]) (o22:OpIn ops 22 (some 81) (.move (.tmp 80)) none [21]) (o23:OpIn ops 23 (some 82) (.load 27 (.tmp 11)) (some (22,true)) [22]) (o24:OpIn ops 24 (some 83) (.load 27 (.tmp 5)) (some (22,true)) [22]) (o25:OpIn ops 25 (some 84) (.call { callee:=.value (.func 17),args:=#[.tmp 82,.tmp 83],argTypes:=#[27,27] }) (some (22,true)) [22,23,24]) (o26:OpIn ops 26 (some 85) (.pick (.tmp 81) (.tmp 84) (.const (.bool false))) none [22,25]) (o27:OpIn ops 27 (some 86) (.move (.tmp 85)) none [26]) (o28:OpIn ops 28 (some 87) (.load 30 (.tmp 12)) (some (27,true)) [27]) (o29:OpIn ops 29 (some 88) (.load 30 (.tmp 6)) (some (27,true)) [27]) (o30:OpIn ops 30 (some 89) (.call { callee:=.value (.func 18),args:=#[.tmp 87,.tmp 88],argTypes:=#[30,30] }) (some (27,true)) [27,28,29]) (o31:OpIn ops 31 (some 90) (.pick (.tmp 86) (.tmp 89) (.const (.bool false))) none [27,30]) (o32:OpIn ops 32 (some 10) (.assign (.tmp 90)) none [31])
  (hS:S w0.drew)
  (x2:∀ w,S w→Calls Tryz.prog 14 #[.slice ra rm rc,.slice sa rm sc] w fun e w'=>e=.returned (.bool true)∧Below w.heap.size w w'∧S w')
  (x6:∀ w,S w→Calls Tryz.prog 14 #[.slice oa om oc,.slice ua om uc] w fun e w'=>e=.returned (.bool true)∧Below w.heap.size w w'∧S w')
  (x11:∀ w,(binOp .eql 35 (.int .i64 ee) (.int .i64 ee)).run Tryz.prog w=.ok (.bool true) w)
  (x14:∀ w,(Instr.fieldAt 27 (.pointer (some ⟨mb,0,none⟩)) 0).run Tryz.prog w=.ok (.pointer (some ⟨mb,0,none⟩)) w)
  (x15:∀ w,S w→(Instr.loadAt 23 (.pointer (some ⟨mb,0,none⟩))).run Tryz.prog w=.ok (.agg #[.int .i64 M.d,.int .i64 M.h,.int .i64 M.l,.int .i64 M.v,.int .i64 M.u,.int .i64 M.x,.int .i64 M.t,.int .i64 M.n]) w)
  (x16:∀ w,S w→Calls Tryz.prog 15 #[.agg #[.int .i64 M.d,.int .i64 M.h,.int .i64 M.l,.int .i64 M.v,.int .i64 M.u,.int .i64 M.x,.int .i64 M.t,.int .i64 M.n]] w fun e w'=>e=.returned (.int .i64 wd)∧Below w.heap.size w w'∧S w')
  (x17:∀ w,(Instr.fieldAt 27 (.pointer (some ⟨mb,0,none⟩)) 0).run Tryz.prog w=.ok (.pointer (some ⟨mb,0,none⟩)) w)
  (x18:∀ w,S w→(Instr.loadAt 23 (.pointer (some ⟨mb,0,none⟩))).run Tryz.prog w=.ok (.agg #[.int .i64 M.d,.int .i64 M.h,.int .i64 M.l,.int .i64 M.v,.int .i64 M.u,.int .i64 M.x,.int .i64 M.t,.int .i64 M.n]) w)
  (x19:∀ w,S w→Calls Tryz.prog 16 #[.agg #[.int .i64 M.d,.int .i64 M.h,.int .i64 M.l,.int .i64 M.v,.int .i64 M.u,.int .i64 M.x,.int .i64 M.t,.int .i64 M.n]] w fun e w'=>e=.returned (.int .i64 wd)∧Below w.heap.size w w'∧S w')
  (x20:∀ w,(binOp .eql 3 (.int .i64 wd) (.int .i64 wd)).run Tryz.prog w=.ok (.bool true) w)
  (x23:∀ w,S w→(Instr.loadAt 27 (.pointer (some ⟨mo,0,none⟩))).run Tryz.prog w=.ok (.agg #[.int .i64 M.d,.int .i64 M.h,.int .i64 M.l,.int .i64 M.v,.int .i64 M.u,.int .i64 M.x,.int .i64 M.t,.int .i64 M.n,.slice E2.a E2.n E2.c,.slice L2.a L2.n L2.c,.slice N2.a N2.n N2.c,.slice O2.a O2.n O2.c]) w)
  (x24:∀ w,S w→(Instr.loadAt 27 (.pointer (some ⟨mb,0,none⟩))).run Tryz.prog w=.ok (.agg #[.int .i64 M.d,.int .i64 M.h,.int .i64 M.l,.int .i64 M.v,.int .i64 M.u,.int .i64 M.x,.int .i64 M.t,.int .i64 M.n,.slice E.a E.n E.c,.slice L.a L.n L.c,.slice N.a N.n N.c,.slice O.a O.n O.c]) w)
  (x25:∀ w,S w→Calls Tryz.prog 17 #[.agg #[.int .i64 M.d,.int .i64 M.h,.int .i64 M.l,.int .i64 M.v,.int .i64 M.u,.int .i64 M.x,.int .i64 M.t,.int .i64 M.n,.slice E2.a E2.n E2.c,.slice L2.a L2.n L2.c,.slice N2.a N2.n N2.c,.slice O2.a O2.n O2.c],.agg #[.int .i64 M.d,.int .i64 M.h,.int .i64 M.l,.int .i64 M.v,.int .i64 M.u,.int .i64 M.x,.int .i64 M.t,.int .i64 M.n,.slice E.a E.n E.c,.slice L.a L.n L.c,.slice N.a N.n N.c,.slice O.a O.n O.c]] w fun e w'=>e=.returned (.bool true)∧Below w.heap.size w w'∧S w')
  (x28:∀ w,S w→(Instr.loadAt 30 (.pointer (some ⟨ao,0,none⟩))).run Tryz.prog w=.ok (.agg #[.int .i64 M.r,.int .i64 M.s,.slice La2.a La2.n La2.c]) w)
  (x29:∀ w,S w→(Instr.loadAt 30 (.pointer (some ⟨ab,0,none⟩))).run Tryz.prog w=.ok (.agg #[.int .i64 M.r,.int .i64 M.s,.slice La.a La.n La.c]) w)
  (x30:∀ w,S w→Calls Tryz.prog 18 #[.agg #[.int .i64 M.r,.int .i64 M.s,.slice La2.a La2.n La2.c],.agg #[.int .i64 M.r,.int .i64 M.s,.slice La.a La.n La.c]] w fun e w'=>e=.returned (.bool true)∧Below w.heap.size w w'∧S w')
  (u5:a0.tmps.getD 5 undef=.pointer (some ⟨mb,0,none⟩))
  (u6:a0.tmps.getD 6 undef=.pointer (some ⟨ab,0,none⟩))
  (u11:a0.tmps.getD 11 undef=.pointer (some ⟨mo,0,none⟩))
  (u12:a0.tmps.getD 12 undef=.pointer (some ⟨ao,0,none⟩))
  (u13:a0.tmps.getD 13 undef=.slice ra rm rc)
  (u14:a0.tmps.getD 14 undef=.slice oa om oc)
  (u15:a0.tmps.getD 15 undef=.int .i64 ee)
  (u16:a0.tmps.getD 16 undef=.slice sa rm sc)
  (u17:a0.tmps.getD 17 undef=.slice ua om uc)
  (u18:a0.tmps.getD 18 undef=.int .i64 ee)
  (hs:91≤a0.tmps.size)
  (fin:∀ a w,a.tmps.size=a0.tmps.size→a.defers=a0.defers→(∀ s,(∀ i,i<33→ms6D i≠some s)→a.tmps.getD s undef=a0.tmps.getD s undef)→S w→(∀ i d,i<33→ms6D i=some d→ms6F M E L N O La E2 L2 N2 O2 La2 mb ab mo ao rm om rc sc oc uc ra sa oa ua ee wd i (a.tmps.getD d undef) w)→Q .normal a w):(Code.region id ops true).wp Tryz.prog Q a0 w0:=by
 have r14:∀ args w,(callFunc 14 args).run Tryz.prog w=.ok (.enter 14 args) w:=eNo Tryz.func14 (by kernel_rfl) rfl
 have r15:∀ args w,(callFunc 15 args).run Tryz.prog w=.ok (.enter 15 args) w:=eNo Tryz.func15 (by kernel_rfl) rfl
 have r16:∀ args w,(callFunc 16 args).run Tryz.prog w=.ok (.enter 16 args) w:=eNo Tryz.func16 (by kernel_rfl) rfl
 have r17:∀ args w,(callFunc 17 args).run Tryz.prog w=.ok (.enter 17 args) w:=eNo Tryz.func17 (by kernel_rfl) rfl
 have r18:∀ args w,(callFunc 18 args).run Tryz.prog w=.ok (.enter 18 args) w:=eNo Tryz.func18 (by kernel_rfl) rfl
 refine wRi (by kernel_rfl) hlow (Inv 33 ms6D a0 (fun l a w=>S w∧Kept2 33 ms6D a0 l a) (fun _=>ms6F M E L N O La E2 L2 N2 O2 La2 mb ab mo ao rm om rc sc oc uc ra sa oa ua ee wd)) (Inv.start ⟨hS,kept2_start _ _ _⟩) ?_ ?_
 ·intro l i o a w ho hl hcl hdep hI
  have hi:i<33:=by rw[←hsz];exact (Array.getElem?_eq_some_iff.1 ho).1
  have ev:∀ (s:Nat),a.eval (.tmp s)=a.tmps.getD s undef:=fun _=>rfl
  have evf:∀ f,a.eval (.func f)=.func (.func f) #[] #[]:=fun _=>rfl
  have evc:∀ c:Value,a.eval (.const c)=c:=fun _=>rfl
  have inj:∀ d,ms6D i=some d→∀ j d',j<33→ms6D j=some d'→j≠i→d'≠d:=fun d hd j d' hj hd' hne e=>hne (ms6D_inj j hj i hi (by rw[hd',hd,e]) (by rw[hd'];simp))
  have kp:∀ s,(∀ i,i<33→ms6D i≠some s)→a.tmps.getD s undef=a0.tmps.getD s undef:=hI.kept
  have hw:S w:=hI.world.1
  have k2:=hI.world.2
  have ex0:=hI.world.2
  have go:∀ {d:Nat}{v:Value}{w':World},ms6D i=some d→Below w.heap.size w w'→S w'→ms6F M E L N O La E2 L2 N2 O2 La2 mb ab mo ao rm om rc sc oc uc ra sa oa ua ee wd i v w'→Inv 33 ms6D a0 (fun l a w=>S w∧Kept2 33 ms6D a0 l a) (fun _=>ms6F M E L N O La E2 L2 N2 O2 La2 mb ab mo ao rm om rc sc oc uc ra sa oa ua ee wd) (fun j=>l j || j==i) (a.put (some d) v) w':=by
   intro d v w' hD hb hS' hF
   exact hI.put hi hD (Nat.lt_of_lt_of_le (ms6D_lt i hi d hD) hs) (inj d hD) ⟨hS',k2.put hD (by rw[hI.size];exact Nat.lt_of_lt_of_le (ms6D_lt i hi d hD) hs) hi⟩ hF (fun j u _ _ _ hf=>ms6F_below hf hb)
  rcases (show i=0∨i=1∨i=2∨i=3∨i=4∨i=5∨i=6∨i=7∨i=8∨i=9∨i=10∨i=11∨i=12∨i=13∨i=14∨i=15∨i=16∨i=17∨i=18∨i=19∨i=20∨i=21∨i=22∨i=23∨i=24∨i=25∨i=26∨i=27∨i=28∨i=29∨i=30∨i=31∨i=32 by omega) with rfl|rfl|rfl|rfl|rfl|rfl|rfl|rfl|rfl|rfl|rfl|rfl|rfl|rfl|rfl|rfl|rfl|rfl|rfl|rfl|rfl|rfl|rfl|rfl|rfl|rfl|rfl|rfl|rfl|rfl|rfl|rfl|rfl
  ·obtain⟨o',e1,e2,e3,e4,e5⟩:=o0
   obtain rfl:=sOp ho e1
   have dp:=dPo e5 hdep
   have U13:a.tmps.getD 13 undef=.slice ra rm rc:=(kp 13 (by decide)).trans u13
   exact wVa (v:=.slice ra rm rc) (w':=w) ho e4 (by simp[execOp,e3,ev,evc,U13]) (by rw[e2];exact go rfl (Below.refl _ _) hw rfl)
  ·obtain⟨o',e1,e2,e3,e4,e5⟩:=o1
   obtain rfl:=sOp ho e1
   have dp:=dPo e5 hdep
   have U16:a.tmps.getD 16 undef=.slice sa rm sc:=(kp 16 (by decide)).trans u16
   exact wVa (v:=.slice sa rm sc) (w':=w) ho e4 (by simp[execOp,e3,ev,evc,U16]) (by rw[e2];exact go rfl (Below.refl _ _) hw rfl)
  ·obtain⟨o',e1,e2,e3,e4,e5⟩:=o2
   obtain rfl:=sOp ho e1
   have dp:=dPo e5 hdep
   have V0:a.tmps.getD 59 undef=.slice ra rm rc:=hI.val 0 59 (by decide) rfl (dp 0 (by decide))
   have V1:a.tmps.getD 60 undef=.slice sa rm sc:=hI.val 1 60 (by decide) rfl (dp 1 (by decide))
   refine wCa (f:=14) (args:=#[.slice ra rm rc,.slice sa rm sc]) ho e4 (by simp[execOp,e3,resolve,invoke,Deferred.ofValue,r14,ev,evf,evc,V0,V1]) ((x2 w hw).mono ?_)
   rintro e W' ⟨rfl,hb6,hs6⟩
   refine⟨_,rfl,?_⟩
   rw[e2]
   exact go rfl hb6 hs6 rfl
  ·obtain⟨o',e1,e2,e3,e4,e5⟩:=o3
   obtain rfl:=sOp ho e1
   have dp:=dPo e5 hdep
   have V2:a.tmps.getD 61 undef=.bool true:=hI.val 2 61 (by decide) rfl (dp 2 (by decide))
   exact wVa (v:=.bool true) (w':=w) ho e4 (by simp[execOp,e3,ev,evc,V2]) (by rw[e2];exact go rfl (Below.refl _ _) hw rfl)
  ·obtain⟨o',e1,e2,e3,e4,e5⟩:=o4
   obtain rfl:=sOp ho e1
   have dp:=dPo e5 hdep
   have V3:a.tmps.getD 62 undef=.bool true:=hI.val 3 62 (by decide) rfl (dp 3 (by decide))
   have U14:a.tmps.getD 14 undef=.slice oa om oc:=(kp 14 (by decide)).trans u14
   obtain⟨og,g1,g2,-,-,-⟩:=o3
   exact wVb (v:=.slice oa om oc) (w':=w) ho e4 g1 g2 (by rw[hI.size];exact Nat.lt_of_lt_of_le (by decide) hs) V3 (by simp[execOp,e3,ev,evc,V3,U14]) (by rw[e2];exact go rfl (Below.refl _ _) hw rfl)
  ·obtain⟨o',e1,e2,e3,e4,e5⟩:=o5
   obtain rfl:=sOp ho e1
   have dp:=dPo e5 hdep
   have V3:a.tmps.getD 62 undef=.bool true:=hI.val 3 62 (by decide) rfl (dp 3 (by decide))
   have U17:a.tmps.getD 17 undef=.slice ua om uc:=(kp 17 (by decide)).trans u17
   obtain⟨og,g1,g2,-,-,-⟩:=o3
   exact wVb (v:=.slice ua om uc) (w':=w) ho e4 g1 g2 (by rw[hI.size];exact Nat.lt_of_lt_of_le (by decide) hs) V3 (by simp[execOp,e3,ev,evc,V3,U17]) (by rw[e2];exact go rfl (Below.refl _ _) hw rfl)
  ·obtain⟨o',e1,e2,e3,e4,e5⟩:=o6
   obtain rfl:=sOp ho e1
   have dp:=dPo e5 hdep
   have V3:a.tmps.getD 62 undef=.bool true:=hI.val 3 62 (by decide) rfl (dp 3 (by decide))
   have V4:a.tmps.getD 63 undef=.slice oa om oc:=hI.val 4 63 (by decide) rfl (dp 4 (by decide))
   have V5:a.tmps.getD 64 undef=.slice ua om uc:=hI.val 5 64 (by decide) rfl (dp 5 (by decide))
   obtain⟨og,g1,g2,-,-,-⟩:=o3
   refine wCb (f:=14) (args:=#[.slice oa om oc,.slice ua om uc]) ho e4 g1 g2 (by rw[hI.size];exact Nat.lt_of_lt_of_le (by decide) hs) V3 (by simp[execOp,e3,resolve,invoke,Deferred.ofValue,r14,ev,evf,evc,V3,V4,V5]) ((x6 w hw).mono ?_)
   rintro e W' ⟨rfl,hb6,hs6⟩
   refine⟨_,rfl,?_⟩
   rw[e2]
   exact go rfl hb6 hs6 rfl
  ·obtain⟨o',e1,e2,e3,e4,e5⟩:=o7
   obtain rfl:=sOp ho e1
   have dp:=dPo e5 hdep
   have V3:a.tmps.getD 62 undef=.bool true:=hI.val 3 62 (by decide) rfl (dp 3 (by decide))
   have V6:a.tmps.getD 65 undef=.bool true:=hI.val 6 65 (by decide) rfl (dp 6 (by decide))
   exact wVa (v:=.bool true) (w':=w) ho e4 (by simp[execOp,e3,ev,evc,V3,V6,asBool]) (by rw[e2];exact go rfl (Below.refl _ _) hw rfl)
  ·obtain⟨o',e1,e2,e3,e4,e5⟩:=o8
   obtain rfl:=sOp ho e1
   have dp:=dPo e5 hdep
   have V7:a.tmps.getD 66 undef=.bool true:=hI.val 7 66 (by decide) rfl (dp 7 (by decide))
   exact wVa (v:=.bool true) (w':=w) ho e4 (by simp[execOp,e3,ev,evc,V7]) (by rw[e2];exact go rfl (Below.refl _ _) hw rfl)
  ·obtain⟨o',e1,e2,e3,e4,e5⟩:=o9
   obtain rfl:=sOp ho e1
   have dp:=dPo e5 hdep
   have V8:a.tmps.getD 67 undef=.bool true:=hI.val 8 67 (by decide) rfl (dp 8 (by decide))
   have U15:a.tmps.getD 15 undef=.int .i64 ee:=(kp 15 (by decide)).trans u15
   obtain⟨og,g1,g2,-,-,-⟩:=o8
   exact wVb (v:=.int .i64 ee) (w':=w) ho e4 g1 g2 (by rw[hI.size];exact Nat.lt_of_lt_of_le (by decide) hs) V8 (by simp[execOp,e3,ev,evc,V8,U15]) (by rw[e2];exact go rfl (Below.refl _ _) hw rfl)
  ·obtain⟨o',e1,e2,e3,e4,e5⟩:=o10
   obtain rfl:=sOp ho e1
   have dp:=dPo e5 hdep
   have V8:a.tmps.getD 67 undef=.bool true:=hI.val 8 67 (by decide) rfl (dp 8 (by decide))
   have U18:a.tmps.getD 18 undef=.int .i64 ee:=(kp 18 (by decide)).trans u18
   obtain⟨og,g1,g2,-,-,-⟩:=o8
   exact wVb (v:=.int .i64 ee) (w':=w) ho e4 g1 g2 (by rw[hI.size];exact Nat.lt_of_lt_of_le (by decide) hs) V8 (by simp[execOp,e3,ev,evc,V8,U18]) (by rw[e2];exact go rfl (Below.refl _ _) hw rfl)
  ·obtain⟨o',e1,e2,e3,e4,e5⟩:=o11
   obtain rfl:=sOp ho e1
   have dp:=dPo e5 hdep
   have V8:a.tmps.getD 67 undef=.bool true:=hI.val 8 67 (by decide) rfl (dp 8 (by decide))
   have V9:a.tmps.getD 68 undef=.int .i64 ee:=hI.val 9 68 (by decide) rfl (dp 9 (by decide))
   have V10:a.tmps.getD 69 undef=.int .i64 ee:=hI.val 10 69 (by decide) rfl (dp 10 (by decide))
   obtain⟨og,g1,g2,-,-,-⟩:=o8
   exact wVb (v:=.bool true) (w':=w) ho e4 g1 g2 (by rw[hI.size];exact Nat.lt_of_lt_of_le (by decide) hs) V8 (by simp[execOp,e3,ev,evc,V8,V9,V10,x11 w,eqGuard]) (by rw[e2];exact go rfl (Below.refl _ _) hw rfl)
  ·obtain⟨o',e1,e2,e3,e4,e5⟩:=o12
   obtain rfl:=sOp ho e1
   have dp:=dPo e5 hdep
   have V8:a.tmps.getD 67 undef=.bool true:=hI.val 8 67 (by decide) rfl (dp 8 (by decide))
   have V11:a.tmps.getD 70 undef=.bool true:=hI.val 11 70 (by decide) rfl (dp 11 (by decide))
   exact wVa (v:=.bool true) (w':=w) ho e4 (by simp[execOp,e3,ev,evc,V8,V11,asBool]) (by rw[e2];exact go rfl (Below.refl _ _) hw rfl)
  ·obtain⟨o',e1,e2,e3,e4,e5⟩:=o13
   obtain rfl:=sOp ho e1
   have dp:=dPo e5 hdep
   have V12:a.tmps.getD 71 undef=.bool true:=hI.val 12 71 (by decide) rfl (dp 12 (by decide))
   exact wVa (v:=.bool true) (w':=w) ho e4 (by simp[execOp,e3,ev,evc,V12]) (by rw[e2];exact go rfl (Below.refl _ _) hw rfl)
  ·obtain⟨o',e1,e2,e3,e4,e5⟩:=o14
   obtain rfl:=sOp ho e1
   have dp:=dPo e5 hdep
   have V13:a.tmps.getD 72 undef=.bool true:=hI.val 13 72 (by decide) rfl (dp 13 (by decide))
   have U5:a.tmps.getD 5 undef=.pointer (some ⟨mb,0,none⟩):=(kp 5 (by decide)).trans u5
   obtain⟨og,g1,g2,-,-,-⟩:=o13
   exact wVb (v:=.pointer (some ⟨mb,0,none⟩)) (w':=w) ho e4 g1 g2 (by rw[hI.size];exact Nat.lt_of_lt_of_le (by decide) hs) V13 (by simp[execOp,e3,ev,evc,V13,U5,x14 w]) (by rw[e2];exact go rfl (Below.refl _ _) hw rfl)
  ·obtain⟨o',e1,e2,e3,e4,e5⟩:=o15
   obtain rfl:=sOp ho e1
   have dp:=dPo e5 hdep
   have V13:a.tmps.getD 72 undef=.bool true:=hI.val 13 72 (by decide) rfl (dp 13 (by decide))
   have V14:a.tmps.getD 73 undef=.pointer (some ⟨mb,0,none⟩):=hI.val 14 73 (by decide) rfl (dp 14 (by decide))
   obtain⟨og,g1,g2,-,-,-⟩:=o13
   exact wVb (v:=.agg #[.int .i64 M.d,.int .i64 M.h,.int .i64 M.l,.int .i64 M.v,.int .i64 M.u,.int .i64 M.x,.int .i64 M.t,.int .i64 M.n]) (w':=w) ho e4 g1 g2 (by rw[hI.size];exact Nat.lt_of_lt_of_le (by decide) hs) V13 (by simp[execOp,e3,ev,evc,V13,V14,x15 w hw]) (by rw[e2];exact go rfl (Below.refl _ _) hw rfl)
  ·obtain⟨o',e1,e2,e3,e4,e5⟩:=o16
   obtain rfl:=sOp ho e1
   have dp:=dPo e5 hdep
   have V13:a.tmps.getD 72 undef=.bool true:=hI.val 13 72 (by decide) rfl (dp 13 (by decide))
   have V15:a.tmps.getD 74 undef=.agg #[.int .i64 M.d,.int .i64 M.h,.int .i64 M.l,.int .i64 M.v,.int .i64 M.u,.int .i64 M.x,.int .i64 M.t,.int .i64 M.n]:=hI.val 15 74 (by decide) rfl (dp 15 (by decide))
   obtain⟨og,g1,g2,-,-,-⟩:=o13
   refine wCb (f:=15) (args:=#[.agg #[.int .i64 M.d,.int .i64 M.h,.int .i64 M.l,.int .i64 M.v,.int .i64 M.u,.int .i64 M.x,.int .i64 M.t,.int .i64 M.n]]) ho e4 g1 g2 (by rw[hI.size];exact Nat.lt_of_lt_of_le (by decide) hs) V13 (by simp[execOp,e3,resolve,invoke,Deferred.ofValue,r15,ev,evf,evc,V13,V15]) ((x16 w hw).mono ?_)
   rintro e W' ⟨rfl,hb6,hs6⟩
   refine⟨_,rfl,?_⟩
   rw[e2]
   exact go rfl hb6 hs6 rfl
  ·obtain⟨o',e1,e2,e3,e4,e5⟩:=o17
   obtain rfl:=sOp ho e1
   have dp:=dPo e5 hdep
   have V13:a.tmps.getD 72 undef=.bool true:=hI.val 13 72 (by decide) rfl (dp 13 (by decide))
   have U5:a.tmps.getD 5 undef=.pointer (some ⟨mb,0,none⟩):=(kp 5 (by decide)).trans u5
   obtain⟨og,g1,g2,-,-,-⟩:=o13
   exact wVb (v:=.pointer (some ⟨mb,0,none⟩)) (w':=w) ho e4 g1 g2 (by rw[hI.size];exact Nat.lt_of_lt_of_le (by decide) hs) V13 (by simp[execOp,e3,ev,evc,V13,U5,x17 w]) (by rw[e2];exact go rfl (Below.refl _ _) hw rfl)
  ·obtain⟨o',e1,e2,e3,e4,e5⟩:=o18
   obtain rfl:=sOp ho e1
   have dp:=dPo e5 hdep
   have V13:a.tmps.getD 72 undef=.bool true:=hI.val 13 72 (by decide) rfl (dp 13 (by decide))
   have V17:a.tmps.getD 76 undef=.pointer (some ⟨mb,0,none⟩):=hI.val 17 76 (by decide) rfl (dp 17 (by decide))
   obtain⟨og,g1,g2,-,-,-⟩:=o13
   exact wVb (v:=.agg #[.int .i64 M.d,.int .i64 M.h,.int .i64 M.l,.int .i64 M.v,.int .i64 M.u,.int .i64 M.x,.int .i64 M.t,.int .i64 M.n]) (w':=w) ho e4 g1 g2 (by rw[hI.size];exact Nat.lt_of_lt_of_le (by decide) hs) V13 (by simp[execOp,e3,ev,evc,V13,V17,x18 w hw]) (by rw[e2];exact go rfl (Below.refl _ _) hw rfl)
  ·obtain⟨o',e1,e2,e3,e4,e5⟩:=o19
   obtain rfl:=sOp ho e1
   have dp:=dPo e5 hdep
   have V13:a.tmps.getD 72 undef=.bool true:=hI.val 13 72 (by decide) rfl (dp 13 (by decide))
   have V18:a.tmps.getD 77 undef=.agg #[.int .i64 M.d,.int .i64 M.h,.int .i64 M.l,.int .i64 M.v,.int .i64 M.u,.int .i64 M.x,.int .i64 M.t,.int .i64 M.n]:=hI.val 18 77 (by decide) rfl (dp 18 (by decide))
   obtain⟨og,g1,g2,-,-,-⟩:=o13
   refine wCb (f:=16) (args:=#[.agg #[.int .i64 M.d,.int .i64 M.h,.int .i64 M.l,.int .i64 M.v,.int .i64 M.u,.int .i64 M.x,.int .i64 M.t,.int .i64 M.n]]) ho e4 g1 g2 (by rw[hI.size];exact Nat.lt_of_lt_of_le (by decide) hs) V13 (by simp[execOp,e3,resolve,invoke,Deferred.ofValue,r16,ev,evf,evc,V13,V18]) ((x19 w hw).mono ?_)
   rintro e W' ⟨rfl,hb6,hs6⟩
   refine⟨_,rfl,?_⟩
   rw[e2]
   exact go rfl hb6 hs6 rfl
  ·obtain⟨o',e1,e2,e3,e4,e5⟩:=o20
   obtain rfl:=sOp ho e1
   have dp:=dPo e5 hdep
   have V13:a.tmps.getD 72 undef=.bool true:=hI.val 13 72 (by decide) rfl (dp 13 (by decide))
   have V16:a.tmps.getD 75 undef=.int .i64 wd:=hI.val 16 75 (by decide) rfl (dp 16 (by decide))
   have V19:a.tmps.getD 78 undef=.int .i64 wd:=hI.val 19 78 (by decide) rfl (dp 19 (by decide))
   obtain⟨og,g1,g2,-,-,-⟩:=o13
   exact wVb (v:=.bool true) (w':=w) ho e4 g1 g2 (by rw[hI.size];exact Nat.lt_of_lt_of_le (by decide) hs) V13 (by simp[execOp,e3,ev,evc,V13,V16,V19,x20 w,eqGuard]) (by rw[e2];exact go rfl (Below.refl _ _) hw rfl)
  ·obtain⟨o',e1,e2,e3,e4,e5⟩:=o21
   obtain rfl:=sOp ho e1
   have dp:=dPo e5 hdep
   have V13:a.tmps.getD 72 undef=.bool true:=hI.val 13 72 (by decide) rfl (dp 13 (by decide))
   have V20:a.tmps.getD 79 undef=.bool true:=hI.val 20 79 (by decide) rfl (dp 20 (by decide))
   exact wVa (v:=.bool true) (w':=w) ho e4 (by simp[execOp,e3,ev,evc,V13,V20,asBool]) (by rw[e2];exact go rfl (Below.refl _ _) hw rfl)
  ·obtain⟨o',e1,e2,e3,e4,e5⟩:=o22
   obtain rfl:=sOp ho e1
   have dp:=dPo e5 hdep
   have V21:a.tmps.getD 80 undef=.bool true:=hI.val 21 80 (by decide) rfl (dp 21 (by decide))
   exact wVa (v:=.bool true) (w':=w) ho e4 (by simp[execOp,e3,ev,evc,V21]) (by rw[e2];exact go rfl (Below.refl _ _) hw rfl)
  ·obtain⟨o',e1,e2,e3,e4,e5⟩:=o23
   obtain rfl:=sOp ho e1
   have dp:=dPo e5 hdep
   have V22:a.tmps.getD 81 undef=.bool true:=hI.val 22 81 (by decide) rfl (dp 22 (by decide))
   have U11:a.tmps.getD 11 undef=.pointer (some ⟨mo,0,none⟩):=(kp 11 (by decide)).trans u11
   obtain⟨og,g1,g2,-,-,-⟩:=o22
   exact wVb (v:=.agg #[.int .i64 M.d,.int .i64 M.h,.int .i64 M.l,.int .i64 M.v,.int .i64 M.u,.int .i64 M.x,.int .i64 M.t,.int .i64 M.n,.slice E2.a E2.n E2.c,.slice L2.a L2.n L2.c,.slice N2.a N2.n N2.c,.slice O2.a O2.n O2.c]) (w':=w) ho e4 g1 g2 (by rw[hI.size];exact Nat.lt_of_lt_of_le (by decide) hs) V22 (by simp[execOp,e3,ev,evc,V22,U11,x23 w hw]) (by rw[e2];exact go rfl (Below.refl _ _) hw rfl)
  ·obtain⟨o',e1,e2,e3,e4,e5⟩:=o24
   obtain rfl:=sOp ho e1
   have dp:=dPo e5 hdep
   have V22:a.tmps.getD 81 undef=.bool true:=hI.val 22 81 (by decide) rfl (dp 22 (by decide))
   have U5:a.tmps.getD 5 undef=.pointer (some ⟨mb,0,none⟩):=(kp 5 (by decide)).trans u5
   obtain⟨og,g1,g2,-,-,-⟩:=o22
   exact wVb (v:=.agg #[.int .i64 M.d,.int .i64 M.h,.int .i64 M.l,.int .i64 M.v,.int .i64 M.u,.int .i64 M.x,.int .i64 M.t,.int .i64 M.n,.slice E.a E.n E.c,.slice L.a L.n L.c,.slice N.a N.n N.c,.slice O.a O.n O.c]) (w':=w) ho e4 g1 g2 (by rw[hI.size];exact Nat.lt_of_lt_of_le (by decide) hs) V22 (by simp[execOp,e3,ev,evc,V22,U5,x24 w hw]) (by rw[e2];exact go rfl (Below.refl _ _) hw rfl)
  ·obtain⟨o',e1,e2,e3,e4,e5⟩:=o25
   obtain rfl:=sOp ho e1
   have dp:=dPo e5 hdep
   have V22:a.tmps.getD 81 undef=.bool true:=hI.val 22 81 (by decide) rfl (dp 22 (by decide))
   have V23:a.tmps.getD 82 undef=.agg #[.int .i64 M.d,.int .i64 M.h,.int .i64 M.l,.int .i64 M.v,.int .i64 M.u,.int .i64 M.x,.int .i64 M.t,.int .i64 M.n,.slice E2.a E2.n E2.c,.slice L2.a L2.n L2.c,.slice N2.a N2.n N2.c,.slice O2.a O2.n O2.c]:=hI.val 23 82 (by decide) rfl (dp 23 (by decide))
   have V24:a.tmps.getD 83 undef=.agg #[.int .i64 M.d,.int .i64 M.h,.int .i64 M.l,.int .i64 M.v,.int .i64 M.u,.int .i64 M.x,.int .i64 M.t,.int .i64 M.n,.slice E.a E.n E.c,.slice L.a L.n L.c,.slice N.a N.n N.c,.slice O.a O.n O.c]:=hI.val 24 83 (by decide) rfl (dp 24 (by decide))
   obtain⟨og,g1,g2,-,-,-⟩:=o22
   refine wCb (f:=17) (args:=#[.agg #[.int .i64 M.d,.int .i64 M.h,.int .i64 M.l,.int .i64 M.v,.int .i64 M.u,.int .i64 M.x,.int .i64 M.t,.int .i64 M.n,.slice E2.a E2.n E2.c,.slice L2.a L2.n L2.c,.slice N2.a N2.n N2.c,.slice O2.a O2.n O2.c],.agg #[.int .i64 M.d,.int .i64 M.h,.int .i64 M.l,.int .i64 M.v,.int .i64 M.u,.int .i64 M.x,.int .i64 M.t,.int .i64 M.n,.slice E.a E.n E.c,.slice L.a L.n L.c,.slice N.a N.n N.c,.slice O.a O.n O.c]]) ho e4 g1 g2 (by rw[hI.size];exact Nat.lt_of_lt_of_le (by decide) hs) V22 (by simp[execOp,e3,resolve,invoke,Deferred.ofValue,r17,ev,evf,evc,V22,V23,V24]) ((x25 w hw).mono ?_)
   rintro e W' ⟨rfl,hb6,hs6⟩
   refine⟨_,rfl,?_⟩
   rw[e2]
   exact go rfl hb6 hs6 rfl
  ·obtain⟨o',e1,e2,e3,e4,e5⟩:=o26
   obtain rfl:=sOp ho e1
   have dp:=dPo e5 hdep
   have V22:a.tmps.getD 81 undef=.bool true:=hI.val 22 81 (by decide) rfl (dp 22 (by decide))
   have V25:a.tmps.getD 84 undef=.bool true:=hI.val 25 84 (by decide) rfl (dp 25 (by decide))
   exact wVa (v:=.bool true) (w':=w) ho e4 (by simp[execOp,e3,ev,evc,V22,V25,asBool]) (by rw[e2];exact go rfl (Below.refl _ _) hw rfl)
  ·obtain⟨o',e1,e2,e3,e4,e5⟩:=o27
   obtain rfl:=sOp ho e1
   have dp:=dPo e5 hdep
   have V26:a.tmps.getD 85 undef=.bool true:=hI.val 26 85 (by decide) rfl (dp 26 (by decide))
   exact wVa (v:=.bool true) (w':=w) ho e4 (by simp[execOp,e3,ev,evc,V26]) (by rw[e2];exact go rfl (Below.refl _ _) hw rfl)
  ·obtain⟨o',e1,e2,e3,e4,e5⟩:=o28
   obtain rfl:=sOp ho e1
   have dp:=dPo e5 hdep
   have V27:a.tmps.getD 86 undef=.bool true:=hI.val 27 86 (by decide) rfl (dp 27 (by decide))
   have U12:a.tmps.getD 12 undef=.pointer (some ⟨ao,0,none⟩):=(kp 12 (by decide)).trans u12
   obtain⟨og,g1,g2,-,-,-⟩:=o27
   exact wVb (v:=.agg #[.int .i64 M.r,.int .i64 M.s,.slice La2.a La2.n La2.c]) (w':=w) ho e4 g1 g2 (by rw[hI.size];exact Nat.lt_of_lt_of_le (by decide) hs) V27 (by simp[execOp,e3,ev,evc,V27,U12,x28 w hw]) (by rw[e2];exact go rfl (Below.refl _ _) hw rfl)
  ·obtain⟨o',e1,e2,e3,e4,e5⟩:=o29
   obtain rfl:=sOp ho e1
   have dp:=dPo e5 hdep
   have V27:a.tmps.getD 86 undef=.bool true:=hI.val 27 86 (by decide) rfl (dp 27 (by decide))
   have U6:a.tmps.getD 6 undef=.pointer (some ⟨ab,0,none⟩):=(kp 6 (by decide)).trans u6
   obtain⟨og,g1,g2,-,-,-⟩:=o27
   exact wVb (v:=.agg #[.int .i64 M.r,.int .i64 M.s,.slice La.a La.n La.c]) (w':=w) ho e4 g1 g2 (by rw[hI.size];exact Nat.lt_of_lt_of_le (by decide) hs) V27 (by simp[execOp,e3,ev,evc,V27,U6,x29 w hw]) (by rw[e2];exact go rfl (Below.refl _ _) hw rfl)
  ·obtain⟨o',e1,e2,e3,e4,e5⟩:=o30
   obtain rfl:=sOp ho e1
   have dp:=dPo e5 hdep
   have V27:a.tmps.getD 86 undef=.bool true:=hI.val 27 86 (by decide) rfl (dp 27 (by decide))
   have V28:a.tmps.getD 87 undef=.agg #[.int .i64 M.r,.int .i64 M.s,.slice La2.a La2.n La2.c]:=hI.val 28 87 (by decide) rfl (dp 28 (by decide))
   have V29:a.tmps.getD 88 undef=.agg #[.int .i64 M.r,.int .i64 M.s,.slice La.a La.n La.c]:=hI.val 29 88 (by decide) rfl (dp 29 (by decide))
   obtain⟨og,g1,g2,-,-,-⟩:=o27
   refine wCb (f:=18) (args:=#[.agg #[.int .i64 M.r,.int .i64 M.s,.slice La2.a La2.n La2.c],.agg #[.int .i64 M.r,.int .i64 M.s,.slice La.a La.n La.c]]) ho e4 g1 g2 (by rw[hI.size];exact Nat.lt_of_lt_of_le (by decide) hs) V27 (by simp[execOp,e3,resolve,invoke,Deferred.ofValue,r18,ev,evf,evc,V27,V28,V29]) ((x30 w hw).mono ?_)
   rintro e W' ⟨rfl,hb6,hs6⟩
   refine⟨_,rfl,?_⟩
   rw[e2]
   exact go rfl hb6 hs6 rfl
  ·obtain⟨o',e1,e2,e3,e4,e5⟩:=o31
   obtain rfl:=sOp ho e1
   have dp:=dPo e5 hdep
   have V27:a.tmps.getD 86 undef=.bool true:=hI.val 27 86 (by decide) rfl (dp 27 (by decide))
   have V30:a.tmps.getD 89 undef=.bool true:=hI.val 30 89 (by decide) rfl (dp 30 (by decide))
   exact wVa (v:=.bool true) (w':=w) ho e4 (by simp[execOp,e3,ev,evc,V27,V30,asBool]) (by rw[e2];exact go rfl (Below.refl _ _) hw rfl)
  ·obtain⟨o',e1,e2,e3,e4,e5⟩:=o32
   obtain rfl:=sOp ho e1
   have dp:=dPo e5 hdep
   have V31:a.tmps.getD 90 undef=.bool true:=hI.val 31 90 (by decide) rfl (dp 31 (by decide))
   exact wVa (v:=.bool true) (w':=w) ho e4 (by simp[execOp,e3,ev,evc,V31]) (by rw[e2];exact go rfl (Below.refl _ _) hw rfl)
 ·intro l a w hall hI
  have all:∀ j,j<33→l j=true:=fun j hj=>hall j (by rw[hsz];exact hj)
  exact fin a w hI.size hI.defers hI.kept hI.world.1 (fun i d hi hD=>hI.val i d hi hD (all i hi))
end Go.Proofs.YthliomlmhfjhnaaGreat
