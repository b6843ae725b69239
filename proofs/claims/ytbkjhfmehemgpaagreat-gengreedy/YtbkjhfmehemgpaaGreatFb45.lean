/- Texts put together. -/
import Derived.Test.YtbkjhfmehemgpaaGreatFb40
import Derived.Test.YtbkjhfmehemgpaaGreatFb39
namespace Go.Proofs.YtbkjhfmehemgpaaGreat
set_option maxRecDepth 20000
set_option maxHeartbeats 16000000
open Go.ChangeShapes Go.WideShapes Go.ChangeAt Go.RowKit
set_option linter.unusedVariables false
set_option linter.unusedSimpArgs false
theorem run_load34 {w:World}{b:Nat}{d h l v u x t n:Int}{E L N O:SL}(q:Blk 34 w b #[.int .i64 d,.int .i64 h,.int .i64 l,.int .i64 v,.int .i64 u,.int .i64 x,.int .i64 t,.int .i64 n,.slice E.a E.n E.c,.slice L.a L.n L.c,.slice N.a N.n N.c,.slice O.a O.n O.c]):(Instr.loadAt 34 (.pointer (some ⟨b,0,none⟩))).run Tryz.prog w=.ok (.agg #[.int .i64 d,.int .i64 h,.int .i64 l,.int .i64 v,.int .i64 u,.int .i64 x,.int .i64 t,.int .i64 n,.slice E.a E.n E.c,.slice L.a L.n L.c,.slice N.a N.n N.c,.slice O.a O.n O.c]) w:=by
 obtain⟨c0,c1,c2,c3,c4,c5,c6,c7,c8,c9,c10,c11⟩:=q.c12
 go_simp
theorem run_load37 {w:World}{b:Nat}{r s:Int}{La:SL}(q:Blk 37 w b #[.int .i64 r,.int .i64 s,.slice La.a La.n La.c]):(Instr.loadAt 37 (.pointer (some ⟨b,0,none⟩))).run Tryz.prog w=.ok (.agg #[.int .i64 r,.int .i64 s,.slice La.a La.n La.c]) w:=by
 obtain⟨c0,c1,c2⟩:=q.c3
 go_simp
theorem run_store34s {w:World}{b:Nat}{x0 x1 x2 x3 x4 x5 x6 x7 x8 x9 x10 x11:Value}(q:Blk 34 w b #[x0,x1,x2,x3,x4,x5,x6,x7,x8,x9,x10,x11])(d h l v u x t n:Int)(E L N O:SL):∃ w',(Instr.storeAt 34 (.pointer (some ⟨b,0,none⟩)) (.agg #[.int .i64 d,.int .i64 h,.int .i64 l,.int .i64 v,.int .i64 u,.int .i64 x,.int .i64 t,.int .i64 n,.slice E.a E.n E.c,.slice L.a L.n L.c,.slice N.a N.n N.c,.slice O.a O.n O.c])).run Tryz.prog w=.ok () w'∧Blk 34 w' b #[.int .i64 d,.int .i64 h,.int .i64 l,.int .i64 v,.int .i64 u,.int .i64 x,.int .i64 t,.int .i64 n,.slice E.a E.n E.c,.slice L.a L.n L.c,.slice N.a N.n N.c,.slice O.a O.n O.c]∧Only b w w':=by
 obtain⟨c0,c1,c2,c3,c4,c5,c6,c7,c8,c9,c10,c11⟩:=q.c12
 obtain⟨o0,o1,o2,o3,o4,o5,o6,o7,o8,o9,o10,o11⟩:=q.o12
 obtain⟨W2,eW,q2,only,hz⟩:=set12 q (.int .i64 d) (.int .i64 h) (.int .i64 l) (.int .i64 v) (.int .i64 u) (.int .i64 x) (.int .i64 t) (.int .i64 n) (.slice E.a E.n E.c) (.slice L.a L.n L.c) (.slice N.a N.n N.c) (.slice O.a O.n O.c)
 exact⟨W2,by rw[←eW];go_simp,q2,only⟩
theorem run_store37s {w:World}{b:Nat}{x0 x1 x2:Value}(q:Blk 37 w b #[x0,x1,x2])(r s:Int)(La:SL):∃ w',(Instr.storeAt 37 (.pointer (some ⟨b,0,none⟩)) (.agg #[.int .i64 r,.int .i64 s,.slice La.a La.n La.c])).run Tryz.prog w=.ok () w'∧Blk 37 w' b #[.int .i64 r,.int .i64 s,.slice La.a La.n La.c]∧Only b w w':=by
 obtain⟨c0,c1,c2⟩:=q.c3
 obtain⟨o0,o1,o2⟩:=q.o3
 obtain⟨W2,eW,q2,only,hz⟩:=set3 q (.int .i64 r) (.int .i64 s) (.slice La.a La.n La.c)
 exact⟨W2,by rw[←eW];go_simp,q2,only⟩
theorem store_same27 {w:World}{b:Nat}{d h l v u x t n:Int}{E L N O:SL}(q:Blk 34 w b #[.int .i64 d,.int .i64 h,.int .i64 l,.int .i64 v,.int .i64 u,.int .i64 x,.int .i64 t,.int .i64 n,.slice E.a E.n E.c,.slice L.a L.n L.c,.slice N.a N.n N.c,.slice O.a O.n O.c]):(Instr.storeAt 34 (.pointer (some ⟨b,0,none⟩)) (.agg #[.int .i64 d,.int .i64 h,.int .i64 l,.int .i64 v,.int .i64 u,.int .i64 x,.int .i64 t,.int .i64 n,.slice E.a E.n E.c,.slice L.a L.n L.c,.slice N.a N.n N.c,.slice O.a O.n O.c])).run Tryz.prog w=.ok () w:=by
 obtain⟨c0,c1,c2,c3,c4,c5,c6,c7,c8,c9,c10,c11⟩:=q.c12
 obtain⟨o0,o1,o2,o3,o4,o5,o6,o7,o8,o9,o10,o11⟩:=q.o12
 obtain⟨W2,eW,q2,only,hz⟩:=set12 q (.int .i64 d) (.int .i64 h) (.int .i64 l) (.int .i64 v) (.int .i64 u) (.int .i64 x) (.int .i64 t) (.int .i64 n) (.slice E.a E.n E.c) (.slice L.a L.n L.c) (.slice N.a N.n N.c) (.slice O.a O.n O.c)
 have e:W2=w:=by
  rw[←eW,sSa c0,sSa c1,sSa c2,sSa c3,sSa c4,sSa c5,sSa c6,sSa c7,sSa c8,sSa c9,sSa c10,sSa c11]
 subst e
 conv=>rhs;rw[←eW]
 go_simp
def cyD (i:Nat):Option Nat:=match i with|0=>some 6|1=>some 7|2=>some 8|3=>some 9|_=>none
theorem cyD_inj:∀ i,i<5→∀ j,j<5→cyD i=cyD j→cyD i≠none→i=j:=by decide
theorem cyD_lt:∀ i,i<5→∀ d,cyD i=some d→d<22:=by
 intro i hi d h
 have:∀ i,i<5→(cyD i).all (fun d=>decide (d<22))=true:=by decide
 have:=this i hi
 rw[h] at this
 simpa using this
def cyF (M:Md)(E L N O:SL)(c:Int)(j:Nat)(q:Value):Prop:=match j with
 | 0=>q=.agg #[.int .i64 M.d,.int .i64 M.h,.int .i64 M.l,.int .i64 M.v,.int .i64 M.u,.int .i64 M.x,.int .i64 M.t,.int .i64 M.n,.slice E.a E.n E.c,.slice L.a L.n L.c,.slice N.a N.n N.c,.slice O.a O.n O.c]
 | 1=>q=.agg #[.int .i64 M.d,.int .i64 M.h,.int .i64 M.l,.int .i64 M.v,.int .i64 M.u,.int .i64 M.x,.int .i64 M.t,.int .i64 M.n,.slice E.a E.n E.c,.slice L.a L.n L.c,.slice N.a N.n N.c,.slice O.a O.n O.c]
 | 2=>q=.int .i64 c
 | 3=>q=.agg #[.int .i64 M.d,.int .i64 M.h,.int .i64 M.l,.int .i64 M.v,.int .i64 M.u,.int .i64 M.x,.int .i64 M.t,.int .i64 M.n,.slice E.a E.n E.c,.slice L.a L.n L.c,.slice N.a N.n N.c,.slice O.a O.n O.c]
 | _=>True
theorem cy_region {id:Nat}{ops:Array Oper}{Q:Exit→Act→World→Prop}{a0:Act}{w0:World}(M:Md)(E L N O:SL)(c:Int)(B:Nat)(hB:Blk 34 w0 B #[.int .i64 M.d,.int .i64 M.h,.int .i64 M.l,.int .i64 M.v,.int .i64 M.u,.int .i64 M.x,.int .i64 M.t,.int .i64 M.n,.slice E.a E.n E.c,.slice L.a L.n L.c,.slice N.a N.n N.c,.slice O.a O.n O.c])
  (hlow:lowB ops=true) (hsz:ops.size=5)
  (o0:OpIn ops 0 (some 6) (.load 34 (.tmp 2)) none []) (o1:OpIn ops 1 (some 7) (.load 34 (.tmp 2)) none []) (o2:OpIn ops 2 (some 8) (.call { callee:=.value (.func 39),args:=#[.tmp 7],argTypes:=#[34] }) none [1]) (o3:OpIn ops 3 (some 9) (.call { callee:=.value (.func 106),args:=#[.tmp 6,.tmp 8],argTypes:=#[34,40] }) none [0,2]) (o4:OpIn ops 4 none (.store 34 (.tmp 2) (.tmp 9)) none [3])
  (ub:a0.tmps.getD 2 undef=.pointer (some ⟨B,0,none⟩))
  (x2:∀ w,Below w0.heap.size w0 w→Calls Tryz.prog 39 #[.agg #[.int .i64 M.d,.int .i64 M.h,.int .i64 M.l,.int .i64 M.v,.int .i64 M.u,.int .i64 M.x,.int .i64 M.t,.int .i64 M.n,.slice E.a E.n E.c,.slice L.a L.n L.c,.slice N.a N.n N.c,.slice O.a O.n O.c]] w fun e w'=>e=.returned (.int .i64 c)∧Below w.heap.size w w')
  (x3:∀ w,Calls Tryz.prog 106 #[.agg #[.int .i64 M.d,.int .i64 M.h,.int .i64 M.l,.int .i64 M.v,.int .i64 M.u,.int .i64 M.x,.int .i64 M.t,.int .i64 M.n,.slice E.a E.n E.c,.slice L.a L.n L.c,.slice N.a N.n N.c,.slice O.a O.n O.c],.int .i64 c] w fun e w'=>e=.returned (.agg #[.int .i64 M.d,.int .i64 M.h,.int .i64 M.l,.int .i64 M.v,.int .i64 M.u,.int .i64 M.x,.int .i64 M.t,.int .i64 M.n,.slice E.a E.n E.c,.slice L.a L.n L.c,.slice N.a N.n N.c,.slice O.a O.n O.c])∧Below w.heap.size w w')
  (hs:22≤a0.tmps.size)
  (fin:∀ a w,a.tmps.size=a0.tmps.size→a.defers=a0.defers→(∀ s,(∀ i,i<5→cyD i≠some s)→a.tmps.getD s undef=a0.tmps.getD s undef)→Below w0.heap.size w0 w→Q .normal a w):(Code.region id ops true).wp Tryz.prog Q a0 w0:=by
 have r47:∀ args w,(callFunc 39 args).run Tryz.prog w=.ok (.enter 39 args) w:=eNo Tryz.func39 (by kernel_rfl) rfl
 have r46:∀ args w,(callFunc 106 args).run Tryz.prog w=.ok (.enter 106 args) w:=eNo Tryz.func106 (by kernel_rfl) rfl
 refine wRi (by kernel_rfl) hlow (Inv 5 cyD a0 (fun _ _ w=>Below w0.heap.size w0 w) (fun _ j q _=>cyF M E L N O c j q)) (Inv.start (Below.refl _ _).drew) ?_ ?_
 ·intro k i o a w ho hl hcl hdep hI
  have hi:i<5:=by rw[←hsz];exact (Array.getElem?_eq_some_iff.1 ho).1
  have ev:∀ (s:Nat),a.eval (.tmp s)=a.tmps.getD s undef:=fun _=>rfl
  have evf:∀ f,a.eval (.func f)=.func (.func f) #[] #[]:=fun _=>rfl
  have inj:∀ d,cyD i=some d→∀ j d',j<5→cyD j=some d'→j≠i→d'≠d:=fun d hd j d' hj hd' hne e=>hne (cyD_inj j hj i hi (by rw[hd',hd,e]) (by rw[hd'];simp))
  have kp:∀ s,(∀ i,i<5→cyD i≠some s)→a.tmps.getD s undef=a0.tmps.getD s undef:=hI.kept
  have hw:Below w0.heap.size w0 w:=hI.world
  have U:a.tmps.getD 2 undef=.pointer (some ⟨B,0,none⟩):=(kp 2 (by decide)).trans ub
  have go:∀ {d:Nat}{v:Value}{w':World},cyD i=some d→Below w.heap.size w w'→cyF M E L N O c i v→Inv 5 cyD a0 (fun _ _ w=>Below w0.heap.size w0 w) (fun _ j q _=>cyF M E L N O c j q) (fun j=>k j || j==i) (a.put (some d) v) w':=by
   intro d v w' hD hb hF
   exact hI.put hi hD (Nat.lt_of_lt_of_le (cyD_lt i hi d hD) hs) (inj d hD) (bTn hw hb) hF (fun j u _ _ _ hf=>hf)
  rcases (show i=0∨i=1∨i=2∨i=3∨i=4 by omega) with rfl|rfl|rfl|rfl|rfl
  ·obtain⟨o',e1,e2,e3,e4,e5⟩:=o0
   obtain rfl:=sOp ho e1
   have dp:=dPo e5 hdep
   exact wVa (v:=.agg #[.int .i64 M.d,.int .i64 M.h,.int .i64 M.l,.int .i64 M.v,.int .i64 M.u,.int .i64 M.x,.int .i64 M.t,.int .i64 M.n,.slice E.a E.n E.c,.slice L.a L.n L.c,.slice N.a N.n N.c,.slice O.a O.n O.c]) (w':=w) ho e4 (by simp[execOp,e3,ev,U,run_load34 (hB.kept hw)]) (by rw[e2];exact go rfl (Below.refl _ _) rfl)
  ·obtain⟨o',e1,e2,e3,e4,e5⟩:=o1
   obtain rfl:=sOp ho e1
   have dp:=dPo e5 hdep
   exact wVa (v:=.agg #[.int .i64 M.d,.int .i64 M.h,.int .i64 M.l,.int .i64 M.v,.int .i64 M.u,.int .i64 M.x,.int .i64 M.t,.int .i64 M.n,.slice E.a E.n E.c,.slice L.a L.n L.c,.slice N.a N.n N.c,.slice O.a O.n O.c]) (w':=w) ho e4 (by simp[execOp,e3,ev,U,run_load34 (hB.kept hw)]) (by rw[e2];exact go rfl (Below.refl _ _) rfl)
  ·obtain⟨o',e1,e2,e3,e4,e5⟩:=o2
   obtain rfl:=sOp ho e1
   have dp:=dPo e5 hdep
   have V1:a.tmps.getD 7 undef=.agg #[.int .i64 M.d,.int .i64 M.h,.int .i64 M.l,.int .i64 M.v,.int .i64 M.u,.int .i64 M.x,.int .i64 M.t,.int .i64 M.n,.slice E.a E.n E.c,.slice L.a L.n L.c,.slice N.a N.n N.c,.slice O.a O.n O.c]:=hI.val 1 7 (by decide) rfl (dp 1 (by decide))
   refine wCa (f:=39) (args:=#[.agg #[.int .i64 M.d,.int .i64 M.h,.int .i64 M.l,.int .i64 M.v,.int .i64 M.u,.int .i64 M.x,.int .i64 M.t,.int .i64 M.n,.slice E.a E.n E.c,.slice L.a L.n L.c,.slice N.a N.n N.c,.slice O.a O.n O.c]]) ho e4 (by simp[execOp,e3,resolve,invoke,Deferred.ofValue,r47,ev,evf,V1]) ((x2 w hw).mono ?_)
   rintro e W' ⟨rfl,hb⟩
   refine⟨_,rfl,?_⟩
   rw[e2]
   exact go rfl hb rfl
  ·obtain⟨o',e1,e2,e3,e4,e5⟩:=o3
   obtain rfl:=sOp ho e1
   have dp:=dPo e5 hdep
   have V0:a.tmps.getD 6 undef=.agg #[.int .i64 M.d,.int .i64 M.h,.int .i64 M.l,.int .i64 M.v,.int .i64 M.u,.int .i64 M.x,.int .i64 M.t,.int .i64 M.n,.slice E.a E.n E.c,.slice L.a L.n L.c,.slice N.a N.n N.c,.slice O.a O.n O.c]:=hI.val 0 6 (by decide) rfl (dp 0 (by decide))
   have V2:a.tmps.getD 8 undef=.int .i64 c:=hI.val 2 8 (by decide) rfl (dp 2 (by decide))
   refine wCa (f:=106) (args:=#[.agg #[.int .i64 M.d,.int .i64 M.h,.int .i64 M.l,.int .i64 M.v,.int .i64 M.u,.int .i64 M.x,.int .i64 M.t,.int .i64 M.n,.slice E.a E.n E.c,.slice L.a L.n L.c,.slice N.a N.n N.c,.slice O.a O.n O.c],.int .i64 c]) ho e4 (by simp[execOp,e3,resolve,invoke,Deferred.ofValue,r46,ev,evf,V0,V2]) ((x3 w).mono ?_)
   rintro e W' ⟨rfl,hb⟩
   refine⟨_,rfl,?_⟩
   rw[e2]
   exact go rfl hb rfl
  ·obtain⟨o',e1,e2,e3,e4,e5⟩:=o4
   obtain rfl:=sOp ho e1
   have dp:=dPo e5 hdep
   have V3:a.tmps.getD 9 undef=.agg #[.int .i64 M.d,.int .i64 M.h,.int .i64 M.l,.int .i64 M.v,.int .i64 M.u,.int .i64 M.x,.int .i64 M.t,.int .i64 M.n,.slice E.a E.n E.c,.slice L.a L.n L.c,.slice N.a N.n N.c,.slice O.a O.n O.c]:=hI.val 3 9 (by decide) rfl (dp 3 (by decide))
   refine wSk (w':=w) ho e4 (by simp[execOp,e3,ev,U,V3,store_same27 (hB.kept hw)]) ?_
   rw[e2]
   exact hI.none_ rfl hw (fun j u _ _ _ hf=>hf)
 ·intro k a w hall hI
  have all:∀ j,j<5→k j=true:=fun j hj=>hall j (by rw[hsz];exact hj)
  exact fin a w hI.size hI.defers hI.kept hI.world
def syD (i:Nat):Option Nat:=match i with|0=>some 7|1=>some 8|2=>some 9|3=>some 10|_=>none
theorem syD_inj:∀ i,i<5→∀ j,j<5→syD i=syD j→syD i≠none→i=j:=by decide
theorem syD_lt:∀ i,i<5→∀ d,syD i=some d→d<21:=by
 intro i hi d h
 have:∀ i,i<5→(syD i).all (fun d=>decide (d<21))=true:=by decide
 have:=this i hi
 rw[h] at this
 simpa using this
def syF (M:Md)(E L N O:SL)(c:Int)(j:Nat)(q:Value):Prop:=match j with
 | 0=>q=.agg #[.int .i64 M.d,.int .i64 M.h,.int .i64 M.l,.int .i64 M.v,.int .i64 M.u,.int .i64 M.x,.int .i64 M.t,.int .i64 M.n,.slice E.a E.n E.c,.slice L.a L.n L.c,.slice N.a N.n N.c,.slice O.a O.n O.c]
 | 1=>q=.agg #[.int .i64 M.d,.int .i64 M.h,.int .i64 M.l,.int .i64 M.v,.int .i64 M.u,.int .i64 M.x,.int .i64 M.t,.int .i64 M.n,.slice E.a E.n E.c,.slice L.a L.n L.c,.slice N.a N.n N.c,.slice O.a O.n O.c]
 | 2=>q=.int .i64 c
 | 3=>q=.agg #[.int .i64 M.d,.int .i64 M.h,.int .i64 M.l,.int .i64 M.v,.int .i64 M.u,.int .i64 M.x,.int .i64 M.t,.int .i64 M.n,.slice E.a E.n E.c,.slice L.a L.n L.c,.slice N.a N.n N.c,.slice O.a O.n O.c]
 | _=>True
theorem sy_region {id:Nat}{ops:Array Oper}{Q:Exit→Act→World→Prop}{a0:Act}{w0:World}(M:Md)(E L N O:SL)(c:Int)(B:Nat)(hB:Blk 34 w0 B #[.int .i64 M.d,.int .i64 M.h,.int .i64 M.l,.int .i64 M.v,.int .i64 M.u,.int .i64 M.x,.int .i64 M.t,.int .i64 M.n,.slice E.a E.n E.c,.slice L.a L.n L.c,.slice N.a N.n N.c,.slice O.a O.n O.c])
  (hlow:lowB ops=true) (hsz:ops.size=5)
  (o0:OpIn ops 0 (some 7) (.load 34 (.tmp 2)) none []) (o1:OpIn ops 1 (some 8) (.load 34 (.tmp 2)) none []) (o2:OpIn ops 2 (some 9) (.call { callee:=.value (.func 39),args:=#[.tmp 8],argTypes:=#[34] }) none [1]) (o3:OpIn ops 3 (some 10) (.call { callee:=.value (.func 106),args:=#[.tmp 7,.tmp 9],argTypes:=#[34,40] }) none [0,2]) (o4:OpIn ops 4 none (.store 34 (.tmp 2) (.tmp 10)) none [3])
  (ub:a0.tmps.getD 2 undef=.pointer (some ⟨B,0,none⟩))
  (x2:∀ w,Below w0.heap.size w0 w→Calls Tryz.prog 39 #[.agg #[.int .i64 M.d,.int .i64 M.h,.int .i64 M.l,.int .i64 M.v,.int .i64 M.u,.int .i64 M.x,.int .i64 M.t,.int .i64 M.n,.slice E.a E.n E.c,.slice L.a L.n L.c,.slice N.a N.n N.c,.slice O.a O.n O.c]] w fun e w'=>e=.returned (.int .i64 c)∧Below w.heap.size w w')
  (x3:∀ w,Calls Tryz.prog 106 #[.agg #[.int .i64 M.d,.int .i64 M.h,.int .i64 M.l,.int .i64 M.v,.int .i64 M.u,.int .i64 M.x,.int .i64 M.t,.int .i64 M.n,.slice E.a E.n E.c,.slice L.a L.n L.c,.slice N.a N.n N.c,.slice O.a O.n O.c],.int .i64 c] w fun e w'=>e=.returned (.agg #[.int .i64 M.d,.int .i64 M.h,.int .i64 M.l,.int .i64 M.v,.int .i64 M.u,.int .i64 M.x,.int .i64 M.t,.int .i64 M.n,.slice E.a E.n E.c,.slice L.a L.n L.c,.slice N.a N.n N.c,.slice O.a O.n O.c])∧Below w.heap.size w w')
  (hs:21≤a0.tmps.size)
  (fin:∀ a w,a.tmps.size=a0.tmps.size→a.defers=a0.defers→(∀ s,(∀ i,i<5→syD i≠some s)→a.tmps.getD s undef=a0.tmps.getD s undef)→Below w0.heap.size w0 w→Q .normal a w):(Code.region id ops true).wp Tryz.prog Q a0 w0:=by
 have r47:∀ args w,(callFunc 39 args).run Tryz.prog w=.ok (.enter 39 args) w:=eNo Tryz.func39 (by kernel_rfl) rfl
 have r46:∀ args w,(callFunc 106 args).run Tryz.prog w=.ok (.enter 106 args) w:=eNo Tryz.func106 (by kernel_rfl) rfl
 refine wRi (by kernel_rfl) hlow (Inv 5 syD a0 (fun _ _ w=>Below w0.heap.size w0 w) (fun _ j q _=>syF M E L N O c j q)) (Inv.start (Below.refl _ _).drew) ?_ ?_
 ·intro k i o a w ho hl hcl hdep hI
  have hi:i<5:=by rw[←hsz];exact (Array.getElem?_eq_some_iff.1 ho).1
  have ev:∀ (s:Nat),a.eval (.tmp s)=a.tmps.getD s undef:=fun _=>rfl
  have evf:∀ f,a.eval (.func f)=.func (.func f) #[] #[]:=fun _=>rfl
  have inj:∀ d,syD i=some d→∀ j d',j<5→syD j=some d'→j≠i→d'≠d:=fun d hd j d' hj hd' hne e=>hne (syD_inj j hj i hi (by rw[hd',hd,e]) (by rw[hd'];simp))
  have kp:∀ s,(∀ i,i<5→syD i≠some s)→a.tmps.getD s undef=a0.tmps.getD s undef:=hI.kept
  have hw:Below w0.heap.size w0 w:=hI.world
  have U:a.tmps.getD 2 undef=.pointer (some ⟨B,0,none⟩):=(kp 2 (by decide)).trans ub
  have go:∀ {d:Nat}{v:Value}{w':World},syD i=some d→Below w.heap.size w w'→syF M E L N O c i v→Inv 5 syD a0 (fun _ _ w=>Below w0.heap.size w0 w) (fun _ j q _=>syF M E L N O c j q) (fun j=>k j || j==i) (a.put (some d) v) w':=by
   intro d v w' hD hb hF
   exact hI.put hi hD (Nat.lt_of_lt_of_le (syD_lt i hi d hD) hs) (inj d hD) (bTn hw hb) hF (fun j u _ _ _ hf=>hf)
  rcases (show i=0∨i=1∨i=2∨i=3∨i=4 by omega) with rfl|rfl|rfl|rfl|rfl
  ·obtain⟨o',e1,e2,e3,e4,e5⟩:=o0
   obtain rfl:=sOp ho e1
   have dp:=dPo e5 hdep
   exact wVa (v:=.agg #[.int .i64 M.d,.int .i64 M.h,.int .i64 M.l,.int .i64 M.v,.int .i64 M.u,.int .i64 M.x,.int .i64 M.t,.int .i64 M.n,.slice E.a E.n E.c,.slice L.a L.n L.c,.slice N.a N.n N.c,.slice O.a O.n O.c]) (w':=w) ho e4 (by simp[execOp,e3,ev,U,run_load34 (hB.kept hw)]) (by rw[e2];exact go rfl (Below.refl _ _) rfl)
  ·obtain⟨o',e1,e2,e3,e4,e5⟩:=o1
   obtain rfl:=sOp ho e1
   have dp:=dPo e5 hdep
   exact wVa (v:=.agg #[.int .i64 M.d,.int .i64 M.h,.int .i64 M.l,.int .i64 M.v,.int .i64 M.u,.int .i64 M.x,.int .i64 M.t,.int .i64 M.n,.slice E.a E.n E.c,.slice L.a L.n L.c,.slice N.a N.n N.c,.slice O.a O.n O.c]) (w':=w) ho e4 (by simp[execOp,e3,ev,U,run_load34 (hB.kept hw)]) (by rw[e2];exact go rfl (Below.refl _ _) rfl)
  ·obtain⟨o',e1,e2,e3,e4,e5⟩:=o2
   obtain rfl:=sOp ho e1
   have dp:=dPo e5 hdep
   have V1:a.tmps.getD 8 undef=.agg #[.int .i64 M.d,.int .i64 M.h,.int .i64 M.l,.int .i64 M.v,.int .i64 M.u,.int .i64 M.x,.int .i64 M.t,.int .i64 M.n,.slice E.a E.n E.c,.slice L.a L.n L.c,.slice N.a N.n N.c,.slice O.a O.n O.c]:=hI.val 1 8 (by decide) rfl (dp 1 (by decide))
   refine wCa (f:=39) (args:=#[.agg #[.int .i64 M.d,.int .i64 M.h,.int .i64 M.l,.int .i64 M.v,.int .i64 M.u,.int .i64 M.x,.int .i64 M.t,.int .i64 M.n,.slice E.a E.n E.c,.slice L.a L.n L.c,.slice N.a N.n N.c,.slice O.a O.n O.c]]) ho e4 (by simp[execOp,e3,resolve,invoke,Deferred.ofValue,r47,ev,evf,V1]) ((x2 w hw).mono ?_)
   rintro e W' ⟨rfl,hb⟩
   refine⟨_,rfl,?_⟩
   rw[e2]
   exact go rfl hb rfl
  ·obtain⟨o',e1,e2,e3,e4,e5⟩:=o3
   obtain rfl:=sOp ho e1
   have dp:=dPo e5 hdep
   have V0:a.tmps.getD 7 undef=.agg #[.int .i64 M.d,.int .i64 M.h,.int .i64 M.l,.int .i64 M.v,.int .i64 M.u,.int .i64 M.x,.int .i64 M.t,.int .i64 M.n,.slice E.a E.n E.c,.slice L.a L.n L.c,.slice N.a N.n N.c,.slice O.a O.n O.c]:=hI.val 0 7 (by decide) rfl (dp 0 (by decide))
   have V2:a.tmps.getD 9 undef=.int .i64 c:=hI.val 2 9 (by decide) rfl (dp 2 (by decide))
   refine wCa (f:=106) (args:=#[.agg #[.int .i64 M.d,.int .i64 M.h,.int .i64 M.l,.int .i64 M.v,.int .i64 M.u,.int .i64 M.x,.int .i64 M.t,.int .i64 M.n,.slice E.a E.n E.c,.slice L.a L.n L.c,.slice N.a N.n N.c,.slice O.a O.n O.c],.int .i64 c]) ho e4 (by simp[execOp,e3,resolve,invoke,Deferred.ofValue,r46,ev,evf,V0,V2]) ((x3 w).mono ?_)
   rintro e W' ⟨rfl,hb⟩
   refine⟨_,rfl,?_⟩
   rw[e2]
   exact go rfl hb rfl
  ·obtain⟨o',e1,e2,e3,e4,e5⟩:=o4
   obtain rfl:=sOp ho e1
   have dp:=dPo e5 hdep
   have V3:a.tmps.getD 10 undef=.agg #[.int .i64 M.d,.int .i64 M.h,.int .i64 M.l,.int .i64 M.v,.int .i64 M.u,.int .i64 M.x,.int .i64 M.t,.int .i64 M.n,.slice E.a E.n E.c,.slice L.a L.n L.c,.slice N.a N.n N.c,.slice O.a O.n O.c]:=hI.val 3 10 (by decide) rfl (dp 3 (by decide))
   refine wSk (w':=w) ho e4 (by simp[execOp,e3,ev,U,V3,store_same27 (hB.kept hw)]) ?_
   rw[e2]
   exact hI.none_ rfl hw (fun j u _ _ _ hf=>hf)
 ·intro k a w hall hI
  have all:∀ j,j<5→k j=true:=fun j hj=>hall j (by rw[hsz];exact hj)
  exact fin a w hI.size hI.defers hI.kept hI.world
def c3D (i:Nat):Option Nat:=match i with|0=>some 13|1=>some 14|_=>none
theorem c3D_inj:∀ i,i<4→∀ j,j<4→c3D i=c3D j→c3D i≠none→i=j:=by decide
theorem c3D_lt:∀ i,i<4→∀ d,c3D i=some d→d<22:=by
 intro i hi d h
 have:∀ i,i<4→(c3D i).all (fun d=>decide (d<22))=true:=by decide
 have:=this i hi
 rw[h] at this
 simpa using this
def c3F (M:Md)(E L N O La:SL)(b1 b2 b3 b4:Nat)(c:Int)(j:Nat)(q:Value):Prop:=match j with
 | 0=>q=.agg #[.int .i64 M.d,.int .i64 M.h,.int .i64 M.l,.int .i64 M.v,.int .i64 M.u,.int .i64 M.x,.int .i64 M.t,.int .i64 M.n,.slice E.a E.n E.c,.slice L.a L.n L.c,.slice N.a N.n N.c,.slice O.a O.n O.c]
 | 1=>q=.agg #[.int .i64 M.r,.int .i64 M.s,.slice La.a La.n La.c]
 | _=>True
def c3S (M:Md)(E L N O La:SL)(b1 b2 b3 b4 B:Nat)(w00:World)(l:Nat→Bool)(w:World):Prop:=Below B w00 w∧B≤w.heap.size∧Blk 34 w b1 #[.int .i64 M.d,.int .i64 M.h,.int .i64 M.l,.int .i64 M.v,.int .i64 M.u,.int .i64 M.x,.int .i64 M.t,.int .i64 M.n,.slice E.a E.n E.c,.slice L.a L.n L.c,.slice N.a N.n N.c,.slice O.a O.n O.c]∧Blk 37 w b2 #[.int .i64 M.r,.int .i64 M.s,.slice La.a La.n La.c]∧Blk 34 w b3 (cond (l 2) #[.int .i64 M.d,.int .i64 M.h,.int .i64 M.l,.int .i64 M.v,.int .i64 M.u,.int .i64 M.x,.int .i64 M.t,.int .i64 M.n,.slice E.a E.n E.c,.slice L.a L.n L.c,.slice N.a N.n N.c,.slice O.a O.n O.c] #[.int .i64 0,.int .i64 0,.int .i64 0,.int .i64 0,.int .i64 0,.int .i64 0,.int .i64 0,.int .i64 0,.slice none 0 0,.slice none 0 0,.slice none 0 0,.slice none 0 0])∧Blk 37 w b4 (cond (l 3) #[.int .i64 M.r,.int .i64 M.s,.slice La.a La.n La.c] #[.int .i64 0,.int .i64 0,.slice none 0 0])
theorem c3_region {id:Nat}{ops:Array Oper}{Q:Exit→Act→World→Prop}{a0:Act}{w0:World}(M:Md)(E L N O La:SL)(b1 b2 b3 b4:Nat)(c:Int)(B:Nat)(w00:World)(hB1:B≤b3)(hB2:B≤b4)(n13:b1≠b3)
  (hlow:lowB ops=true) (hsz:ops.size=4)
  (o0:OpIn ops 0 (some 13) (.load 34 (.tmp 2)) none []) (o1:OpIn ops 1 (some 14) (.load 37 (.tmp 3)) none []) (o2:OpIn ops 2 none (.store 34 (.tmp 4) (.tmp 13)) none [0]) (o3:OpIn ops 3 none (.store 37 (.tmp 5) (.tmp 14)) none [1])
  (u2:a0.tmps.getD 2 undef=.pointer (some ⟨b1,0,none⟩)) (u3:a0.tmps.getD 3 undef=.pointer (some ⟨b2,0,none⟩)) (u4:a0.tmps.getD 4 undef=.pointer (some ⟨b3,0,none⟩)) (u5:a0.tmps.getD 5 undef=.pointer (some ⟨b4,0,none⟩)) (n24:b2≠b4)
  (hS:c3S M E L N O La b1 b2 b3 b4 B w00 (fun _=>false) w0.drew)
  (hs:22≤a0.tmps.size)
  (fin:∀ a w,a.tmps.size=a0.tmps.size→a.defers=a0.defers→(∀ s,(∀ i,i<4→c3D i≠some s)→a.tmps.getD s undef=a0.tmps.getD s undef)→Below B w00 w→Blk 34 w b3 #[.int .i64 M.d,.int .i64 M.h,.int .i64 M.l,.int .i64 M.v,.int .i64 M.u,.int .i64 M.x,.int .i64 M.t,.int .i64 M.n,.slice E.a E.n E.c,.slice L.a L.n L.c,.slice N.a N.n N.c,.slice O.a O.n O.c]→Blk 37 w b4 #[.int .i64 M.r,.int .i64 M.s,.slice La.a La.n La.c]→Q .normal a w):(Code.region id ops true).wp Tryz.prog Q a0 w0:=by
 have r55:∀ args w,(callFunc 40 args).run Tryz.prog w=.ok (.enter 40 args) w:=eNo Tryz.func40 (by kernel_rfl) rfl
 have r54:∀ args w,(callFunc 108 args).run Tryz.prog w=.ok (.enter 108 args) w:=eNo Tryz.func108 (by kernel_rfl) rfl
 refine wRi (by kernel_rfl) hlow (Inv 4 c3D a0 (fun l _ w=>c3S M E L N O La b1 b2 b3 b4 B w00 l w) (fun _ j q _=>c3F M E L N O La b1 b2 b3 b4 c j q)) (Inv.start hS) ?_ ?_
 ·intro l i o a w ho hl hcl hdep hI
  have hi:i<4:=by rw[←hsz];exact (Array.getElem?_eq_some_iff.1 ho).1
  have ev:∀ (s:Nat),a.eval (.tmp s)=a.tmps.getD s undef:=fun _=>rfl
  have evf:∀ f,a.eval (.func f)=.func (.func f) #[] #[]:=fun _=>rfl
  have inj:∀ d,c3D i=some d→∀ j d',j<4→c3D j=some d'→j≠i→d'≠d:=fun d hd j d' hj hd' hne e=>hne (c3D_inj j hj i hi (by rw[hd',hd,e]) (by rw[hd'];simp))
  have kp:∀ s,(∀ i,i<4→c3D i≠some s)→a.tmps.getD s undef=a0.tmps.getD s undef:=hI.kept
  obtain⟨hw,hsz',k1,k2,k3,k4⟩:=hI.world
  have oth:∀ j,j≠i→(l j || j==i)=l j:=fun j hj=>by rw[show (j==i)=false by simp[hj],Bool.or_false]
  have sam:(l i || i==i)=true:=by simp
  have U2:a.tmps.getD 2 undef=.pointer (some ⟨b1,0,none⟩):=(kp 2 (by decide)).trans u2
  have U3:a.tmps.getD 3 undef=.pointer (some ⟨b2,0,none⟩):=(kp 3 (by decide)).trans u3
  have U4:a.tmps.getD 4 undef=.pointer (some ⟨b3,0,none⟩):=(kp 4 (by decide)).trans u4
  have U5:a.tmps.getD 5 undef=.pointer (some ⟨b4,0,none⟩):=(kp 5 (by decide)).trans u5
  have go:∀ {d:Nat}{v:Value}{w':World},c3D i=some d→i≠2∧i≠3→Below w.heap.size w w'→c3F M E L N O La b1 b2 b3 b4 c i v→Inv 4 c3D a0 (fun l _ w=>c3S M E L N O La b1 b2 b3 b4 B w00 l w) (fun _ j q _=>c3F M E L N O La b1 b2 b3 b4 c j q) (fun j=>l j || j==i) (a.put (some d) v) w':=by
   intro d v w' hD hne hb hF
   refine hI.put hi hD (Nat.lt_of_lt_of_le (c3D_lt i hi d hD) hs) (inj d hD) ⟨hw.trans (hb.mono hsz'),Nat.le_trans hsz' hb.size,k1.kept hb,k2.kept hb,?_,?_⟩ hF (fun j u _ _ _ hf=>hf)
   ·dsimp only
    rw[oth 2 (fun e=>hne.1 e.symm)]
    exact k3.kept hb
   ·dsimp only
    rw[oth 3 (fun e=>hne.2 e.symm)]
    exact k4.kept hb
  rcases (show i=0∨i=1∨i=2∨i=3 by omega) with rfl|rfl|rfl|rfl
  ·obtain⟨o',e1,e2,e3,e4,e5⟩:=o0
   obtain rfl:=sOp ho e1
   have dp:=dPo e5 hdep
   exact wVa (v:=.agg #[.int .i64 M.d,.int .i64 M.h,.int .i64 M.l,.int .i64 M.v,.int .i64 M.u,.int .i64 M.x,.int .i64 M.t,.int .i64 M.n,.slice E.a E.n E.c,.slice L.a L.n L.c,.slice N.a N.n N.c,.slice O.a O.n O.c]) (w':=w) ho e4 (by simp[execOp,e3,ev,U2,run_load34 k1]) (by rw[e2];exact go rfl (by decide) (Below.refl _ _) rfl)
  ·obtain⟨o',e1,e2,e3,e4,e5⟩:=o1
   obtain rfl:=sOp ho e1
   have dp:=dPo e5 hdep
   exact wVa (v:=.agg #[.int .i64 M.r,.int .i64 M.s,.slice La.a La.n La.c]) (w':=w) ho e4 (by simp[execOp,e3,ev,U3,run_load37 k2]) (by rw[e2];exact go rfl (by decide) (Below.refl _ _) rfl)
  ·obtain⟨o',e1,e2,e3,e4,e5⟩:=o2
   obtain rfl:=sOp ho e1
   have dp:=dPo e5 hdep
   have V0:a.tmps.getD 13 undef=.agg #[.int .i64 M.d,.int .i64 M.h,.int .i64 M.l,.int .i64 M.v,.int .i64 M.u,.int .i64 M.x,.int .i64 M.t,.int .i64 M.n,.slice E.a E.n E.c,.slice L.a L.n L.c,.slice N.a N.n N.c,.slice O.a O.n O.c]:=hI.val 0 13 (by decide) rfl (dp 0 (by decide))
   rw[hl] at k3
   obtain⟨w',r',q',on⟩:=run_store34s k3 M.d M.h M.l M.v M.u M.x M.t M.n E L N O
   refine wSk (w':=w') ho e4 (by simp[execOp,e3,ev,U4,V0,r']) ?_
   rw[e2]
   refine hI.none_ rfl ⟨Only.below hw hB1 hsz' on,Nat.le_trans hsz' on.size,k1.only on n13,k2.only on (k2.apart k3 (by decide)),?_,?_⟩ (fun j u _ _ _ hf=>hf)
   ·dsimp only
    rw[sam]
    exact q'
   ·dsimp only
    rw[oth 3 (by decide)]
    exact k4.only on (k4.apart k3 (by decide))
  ·obtain⟨o',e1,e2,e3,e4,e5⟩:=o3
   obtain rfl:=sOp ho e1
   have dp:=dPo e5 hdep
   have V1:a.tmps.getD 14 undef=.agg #[.int .i64 M.r,.int .i64 M.s,.slice La.a La.n La.c]:=hI.val 1 14 (by decide) rfl (dp 1 (by decide))
   rw[hl] at k4
   obtain⟨w',r',q',on⟩:=run_store37s k4 M.r M.s La
   refine wSk (w':=w') ho e4 (by simp[execOp,e3,ev,U5,V1,r']) ?_
   rw[e2]
   refine hI.none_ rfl ⟨Only.below hw hB2 hsz' on,Nat.le_trans hsz' on.size,k1.only on (k1.apart k4 (by decide)),k2.only on n24,?_,?_⟩ (fun j u _ _ _ hf=>hf)
   ·dsimp only
    rw[oth 2 (by decide)]
    exact k3.only on (k3.apart k4 (by decide))
   ·dsimp only
    rw[sam]
    exact q'
 ·intro l a w hall hI
  have all:∀ j,j<4→l j=true:=fun j hj=>hall j (by rw[hsz];exact hj)
  obtain⟨hw,-,-,-,k3,k4⟩:=hI.world
  rw[all 2 (by decide)] at k3
  rw[all 3 (by decide)] at k4
  exact fin a w hI.size hI.defers hI.kept hw k3 k4
def c4D (i:Nat):Option Nat:=match i with|0=>some 15|1=>some 16|2=>some 17|3=>some 18|4=>some 19|5=>some 20|6=>some 21|_=>none
theorem c4D_inj:∀ i,i<9→∀ j,j<9→c4D i=c4D j→c4D i≠none→i=j:=by decide
theorem c4D_lt:∀ i,i<9→∀ d,c4D i=some d→d<22:=by
 intro i hi d h
 have:∀ i,i<9→(c4D i).all (fun d=>decide (d<22))=true:=by decide
 have:=this i hi
 rw[h] at this
 simpa using this
def c4F (M:Md)(E L N O La:SL)(b1 b2 b3 b4:Nat)(c:Int)(j:Nat)(q:Value):Prop:=match j with
 | 0=>q=.agg #[.int .i64 M.d,.int .i64 M.h,.int .i64 M.l,.int .i64 M.v,.int .i64 M.u,.int .i64 M.x,.int .i64 M.t,.int .i64 M.n,.slice E.a E.n E.c,.slice L.a L.n L.c,.slice N.a N.n N.c,.slice O.a O.n O.c]
 | 1=>q=.agg #[.int .i64 M.r,.int .i64 M.s,.slice La.a La.n La.c]
 | 2=>q=.agg #[.int .i64 M.r,.int .i64 M.s,.slice La.a La.n La.c]
 | 3=>q=.pointer (some ⟨b1,0,none⟩)
 | 4=>q=.agg #[.int .i64 M.d,.int .i64 M.h,.int .i64 M.l,.int .i64 M.v,.int .i64 M.u,.int .i64 M.x,.int .i64 M.t,.int .i64 M.n]
 | 5=>q=.int .i64 c
 | 6=>q=.agg #[.int .i64 M.r,.int .i64 M.s,.slice La.a La.n La.c]
 | _=>True
def c4S (M:Md)(E L N O La:SL)(b1 b2 b3 b4 B:Nat)(w00:World)(l:Nat→Bool)(w:World):Prop:=Below B w00 w∧B≤w.heap.size∧Blk 34 w b1 #[.int .i64 M.d,.int .i64 M.h,.int .i64 M.l,.int .i64 M.v,.int .i64 M.u,.int .i64 M.x,.int .i64 M.t,.int .i64 M.n,.slice E.a E.n E.c,.slice L.a L.n L.c,.slice N.a N.n N.c,.slice O.a O.n O.c]∧Blk 37 w b2 #[.int .i64 M.r,.int .i64 M.s,.slice La.a La.n La.c]∧Blk 34 w b3 (cond (l 7) #[.int .i64 M.d,.int .i64 M.h,.int .i64 M.l,.int .i64 M.v,.int .i64 M.u,.int .i64 M.x,.int .i64 M.t,.int .i64 M.n,.slice E.a E.n E.c,.slice L.a L.n L.c,.slice N.a N.n N.c,.slice O.a O.n O.c] #[.int .i64 0,.int .i64 0,.int .i64 0,.int .i64 0,.int .i64 0,.int .i64 0,.int .i64 0,.int .i64 0,.slice none 0 0,.slice none 0 0,.slice none 0 0,.slice none 0 0])∧Blk 37 w b4 (cond (l 8) #[.int .i64 M.r,.int .i64 M.s,.slice La.a La.n La.c] #[.int .i64 0,.int .i64 0,.slice none 0 0])
theorem c4_region {id:Nat}{ops:Array Oper}{Q:Exit→Act→World→Prop}{a0:Act}{w0:World}(M:Md)(E L N O La:SL)(b1 b2 b3 b4:Nat)(c:Int)(B:Nat)(w00:World)(hB1:B≤b3)(hB2:B≤b4)(n13:b1≠b3)
  (hlow:lowB ops=true) (hsz:ops.size=9)
  (o0:OpIn ops 0 (some 15) (.load 34 (.tmp 2)) none []) (o1:OpIn ops 1 (some 16) (.load 37 (.tmp 3)) none []) (o2:OpIn ops 2 (some 17) (.load 37 (.tmp 3)) none []) (o3:OpIn ops 3 (some 18) (.fieldAddr 34 (.tmp 2) 0) none []) (o4:OpIn ops 4 (some 19) (.load 23 (.tmp 18)) none [3]) (o5:OpIn ops 5 (some 20) (.call { callee:=.value (.func 40),args:=#[.tmp 17,.tmp 19],argTypes:=#[37,23] }) none [2,4]) (o6:OpIn ops 6 (some 21) (.call { callee:=.value (.func 108),args:=#[.tmp 16,.tmp 20],argTypes:=#[37,40] }) none [1,5]) (o7:OpIn ops 7 none (.store 34 (.tmp 4) (.tmp 15)) none [0]) (o8:OpIn ops 8 none (.store 37 (.tmp 5) (.tmp 21)) none [6])
  (u2:a0.tmps.getD 2 undef=.pointer (some ⟨b1,0,none⟩)) (u3:a0.tmps.getD 3 undef=.pointer (some ⟨b2,0,none⟩)) (u4:a0.tmps.getD 4 undef=.pointer (some ⟨b3,0,none⟩)) (u5:a0.tmps.getD 5 undef=.pointer (some ⟨b4,0,none⟩)) (n24:b2≠b4)
  (hS:c4S M E L N O La b1 b2 b3 b4 B w00 (fun _=>false) w0.drew)
  (x5:∀ w,Below B w00 w→Calls Tryz.prog 40 #[.agg #[.int .i64 M.r,.int .i64 M.s,.slice La.a La.n La.c],.agg #[.int .i64 M.d,.int .i64 M.h,.int .i64 M.l,.int .i64 M.v,.int .i64 M.u,.int .i64 M.x,.int .i64 M.t,.int .i64 M.n]] w fun e w'=>e=.returned (.int .i64 c)∧Below w.heap.size w w')
  (x6:∀ w,Calls Tryz.prog 108 #[.agg #[.int .i64 M.r,.int .i64 M.s,.slice La.a La.n La.c],.int .i64 c] w fun e w'=>e=.returned (.agg #[.int .i64 M.r,.int .i64 M.s,.slice La.a La.n La.c])∧Below w.heap.size w w')
  (hs:22≤a0.tmps.size)
  (fin:∀ a w,a.tmps.size=a0.tmps.size→a.defers=a0.defers→(∀ s,(∀ i,i<9→c4D i≠some s)→a.tmps.getD s undef=a0.tmps.getD s undef)→Below B w00 w→Blk 34 w b3 #[.int .i64 M.d,.int .i64 M.h,.int .i64 M.l,.int .i64 M.v,.int .i64 M.u,.int .i64 M.x,.int .i64 M.t,.int .i64 M.n,.slice E.a E.n E.c,.slice L.a L.n L.c,.slice N.a N.n N.c,.slice O.a O.n O.c]→Blk 37 w b4 #[.int .i64 M.r,.int .i64 M.s,.slice La.a La.n La.c]→Q .normal a w):(Code.region id ops true).wp Tryz.prog Q a0 w0:=by
 have r55:∀ args w,(callFunc 40 args).run Tryz.prog w=.ok (.enter 40 args) w:=eNo Tryz.func40 (by kernel_rfl) rfl
 have r54:∀ args w,(callFunc 108 args).run Tryz.prog w=.ok (.enter 108 args) w:=eNo Tryz.func108 (by kernel_rfl) rfl
 refine wRi (by kernel_rfl) hlow (Inv 9 c4D a0 (fun l _ w=>c4S M E L N O La b1 b2 b3 b4 B w00 l w) (fun _ j q _=>c4F M E L N O La b1 b2 b3 b4 c j q)) (Inv.start hS) ?_ ?_
 ·intro l i o a w ho hl hcl hdep hI
  have hi:i<9:=by rw[←hsz];exact (Array.getElem?_eq_some_iff.1 ho).1
  have ev:∀ (s:Nat),a.eval (.tmp s)=a.tmps.getD s undef:=fun _=>rfl
  have evf:∀ f,a.eval (.func f)=.func (.func f) #[] #[]:=fun _=>rfl
  have inj:∀ d,c4D i=some d→∀ j d',j<9→c4D j=some d'→j≠i→d'≠d:=fun d hd j d' hj hd' hne e=>hne (c4D_inj j hj i hi (by rw[hd',hd,e]) (by rw[hd'];simp))
  have kp:∀ s,(∀ i,i<9→c4D i≠some s)→a.tmps.getD s undef=a0.tmps.getD s undef:=hI.kept
  obtain⟨hw,hsz',k1,k2,k3,k4⟩:=hI.world
  have oth:∀ j,j≠i→(l j || j==i)=l j:=fun j hj=>by rw[show (j==i)=false by simp[hj],Bool.or_false]
  have sam:(l i || i==i)=true:=by simp
  have U2:a.tmps.getD 2 undef=.pointer (some ⟨b1,0,none⟩):=(kp 2 (by decide)).trans u2
  have U3:a.tmps.getD 3 undef=.pointer (some ⟨b2,0,none⟩):=(kp 3 (by decide)).trans u3
  have U4:a.tmps.getD 4 undef=.pointer (some ⟨b3,0,none⟩):=(kp 4 (by decide)).trans u4
  have U5:a.tmps.getD 5 undef=.pointer (some ⟨b4,0,none⟩):=(kp 5 (by decide)).trans u5
  have go:∀ {d:Nat}{v:Value}{w':World},c4D i=some d→i≠7∧i≠8→Below w.heap.size w w'→c4F M E L N O La b1 b2 b3 b4 c i v→Inv 9 c4D a0 (fun l _ w=>c4S M E L N O La b1 b2 b3 b4 B w00 l w) (fun _ j q _=>c4F M E L N O La b1 b2 b3 b4 c j q) (fun j=>l j || j==i) (a.put (some d) v) w':=by
   intro d v w' hD hne hb hF
   refine hI.put hi hD (Nat.lt_of_lt_of_le (c4D_lt i hi d hD) hs) (inj d hD) ⟨hw.trans (hb.mono hsz'),Nat.le_trans hsz' hb.size,k1.kept hb,k2.kept hb,?_,?_⟩ hF (fun j u _ _ _ hf=>hf)
   ·dsimp only
    rw[oth 7 (fun e=>hne.1 e.symm)]
    exact k3.kept hb
   ·dsimp only
    rw[oth 8 (fun e=>hne.2 e.symm)]
    exact k4.kept hb
  rcases (show i=0∨i=1∨i=2∨i=3∨i=4∨i=5∨i=6∨i=7∨i=8 by omega) with rfl|rfl|rfl|rfl|rfl|rfl|rfl|rfl|rfl
  ·obtain⟨o',e1,e2,e3,e4,e5⟩:=o0
   obtain rfl:=sOp ho e1
   have dp:=dPo e5 hdep
   exact wVa (v:=.agg #[.int .i64 M.d,.int .i64 M.h,.int .i64 M.l,.int .i64 M.v,.int .i64 M.u,.int .i64 M.x,.int .i64 M.t,.int .i64 M.n,.slice E.a E.n E.c,.slice L.a L.n L.c,.slice N.a N.n N.c,.slice O.a O.n O.c]) (w':=w) ho e4 (by simp[execOp,e3,ev,U2,run_load34 k1]) (by rw[e2];exact go rfl (by decide) (Below.refl _ _) rfl)
  ·obtain⟨o',e1,e2,e3,e4,e5⟩:=o1
   obtain rfl:=sOp ho e1
   have dp:=dPo e5 hdep
   exact wVa (v:=.agg #[.int .i64 M.r,.int .i64 M.s,.slice La.a La.n La.c]) (w':=w) ho e4 (by simp[execOp,e3,ev,U3,run_load37 k2]) (by rw[e2];exact go rfl (by decide) (Below.refl _ _) rfl)
  ·obtain⟨o',e1,e2,e3,e4,e5⟩:=o2
   obtain rfl:=sOp ho e1
   have dp:=dPo e5 hdep
   exact wVa (v:=.agg #[.int .i64 M.r,.int .i64 M.s,.slice La.a La.n La.c]) (w':=w) ho e4 (by simp[execOp,e3,ev,U3,run_load37 k2]) (by rw[e2];exact go rfl (by decide) (Below.refl _ _) rfl)
  ·obtain⟨o',e1,e2,e3,e4,e5⟩:=o3
   obtain rfl:=sOp ho e1
   have dp:=dPo e5 hdep
   exact wVa (v:=.pointer (some ⟨b1,0,none⟩)) (w':=w) ho e4 (by simp[execOp,e3,ev,U2,run_field27 b1 0 0 (by omega)]) (by rw[e2];exact go rfl (by decide) (Below.refl _ _) rfl)
  ·obtain⟨o',e1,e2,e3,e4,e5⟩:=o4
   obtain rfl:=sOp ho e1
   have dp:=dPo e5 hdep
   have V3:a.tmps.getD 18 undef=.pointer (some ⟨b1,0,none⟩):=hI.val 3 18 (by decide) rfl (dp 3 (by decide))
   exact wVa (v:=.agg #[.int .i64 M.d,.int .i64 M.h,.int .i64 M.l,.int .i64 M.v,.int .i64 M.u,.int .i64 M.x,.int .i64 M.t,.int .i64 M.n]) (w':=w) ho e4 (by simp[execOp,e3,ev,V3,run_cfg12 k1]) (by rw[e2];exact go rfl (by decide) (Below.refl _ _) rfl)
  ·obtain⟨o',e1,e2,e3,e4,e5⟩:=o5
   obtain rfl:=sOp ho e1
   have dp:=dPo e5 hdep
   have V2:a.tmps.getD 17 undef=.agg #[.int .i64 M.r,.int .i64 M.s,.slice La.a La.n La.c]:=hI.val 2 17 (by decide) rfl (dp 2 (by decide))
   have V4:a.tmps.getD 19 undef=.agg #[.int .i64 M.d,.int .i64 M.h,.int .i64 M.l,.int .i64 M.v,.int .i64 M.u,.int .i64 M.x,.int .i64 M.t,.int .i64 M.n]:=hI.val 4 19 (by decide) rfl (dp 4 (by decide))
   refine wCa (f:=40) (args:=#[.agg #[.int .i64 M.r,.int .i64 M.s,.slice La.a La.n La.c],.agg #[.int .i64 M.d,.int .i64 M.h,.int .i64 M.l,.int .i64 M.v,.int .i64 M.u,.int .i64 M.x,.int .i64 M.t,.int .i64 M.n]]) ho e4 (by simp[execOp,e3,resolve,invoke,Deferred.ofValue,r55,ev,evf,V2,V4]) ((x5 w hw).mono ?_)
   rintro e W' ⟨rfl,hb⟩
   refine⟨_,rfl,?_⟩
   rw[e2]
   exact go rfl (by decide) hb rfl
  ·obtain⟨o',e1,e2,e3,e4,e5⟩:=o6
   obtain rfl:=sOp ho e1
   have dp:=dPo e5 hdep
   have V1:a.tmps.getD 16 undef=.agg #[.int .i64 M.r,.int .i64 M.s,.slice La.a La.n La.c]:=hI.val 1 16 (by decide) rfl (dp 1 (by decide))
   have V5:a.tmps.getD 20 undef=.int .i64 c:=hI.val 5 20 (by decide) rfl (dp 5 (by decide))
   refine wCa (f:=108) (args:=#[.agg #[.int .i64 M.r,.int .i64 M.s,.slice La.a La.n La.c],.int .i64 c]) ho e4 (by simp[execOp,e3,resolve,invoke,Deferred.ofValue,r54,ev,evf,V1,V5]) ((x6 w).mono ?_)
   rintro e W' ⟨rfl,hb⟩
   refine⟨_,rfl,?_⟩
   rw[e2]
   exact go rfl (by decide) hb rfl
  ·obtain⟨o',e1,e2,e3,e4,e5⟩:=o7
   obtain rfl:=sOp ho e1
   have dp:=dPo e5 hdep
   have V0:a.tmps.getD 15 undef=.agg #[.int .i64 M.d,.int .i64 M.h,.int .i64 M.l,.int .i64 M.v,.int .i64 M.u,.int .i64 M.x,.int .i64 M.t,.int .i64 M.n,.slice E.a E.n E.c,.slice L.a L.n L.c,.slice N.a N.n N.c,.slice O.a O.n O.c]:=hI.val 0 15 (by decide) rfl (dp 0 (by decide))
   rw[hl] at k3
   obtain⟨w',r',q',on⟩:=run_store34s k3 M.d M.h M.l M.v M.u M.x M.t M.n E L N O
   refine wSk (w':=w') ho e4 (by simp[execOp,e3,ev,U4,V0,r']) ?_
   rw[e2]
   refine hI.none_ rfl ⟨Only.below hw hB1 hsz' on,Nat.le_trans hsz' on.size,k1.only on n13,k2.only on (k2.apart k3 (by decide)),?_,?_⟩ (fun j u _ _ _ hf=>hf)
   ·dsimp only
    rw[sam]
    exact q'
   ·dsimp only
    rw[oth 8 (by decide)]
    exact k4.only on (k4.apart k3 (by decide))
  ·obtain⟨o',e1,e2,e3,e4,e5⟩:=o8
   obtain rfl:=sOp ho e1
   have dp:=dPo e5 hdep
   have V6:a.tmps.getD 21 undef=.agg #[.int .i64 M.r,.int .i64 M.s,.slice La.a La.n La.c]:=hI.val 6 21 (by decide) rfl (dp 6 (by decide))
   rw[hl] at k4
   obtain⟨w',r',q',on⟩:=run_store37s k4 M.r M.s La
   refine wSk (w':=w') ho e4 (by simp[execOp,e3,ev,U5,V6,r']) ?_
   rw[e2]
   refine hI.none_ rfl ⟨Only.below hw hB2 hsz' on,Nat.le_trans hsz' on.size,k1.only on (k1.apart k4 (by decide)),k2.only on n24,?_,?_⟩ (fun j u _ _ _ hf=>hf)
   ·dsimp only
    rw[oth 7 (by decide)]
    exact k3.only on (k3.apart k4 (by decide))
   ·dsimp only
    rw[sam]
    exact q'
 ·intro l a w hall hI
  have all:∀ j,j<9→l j=true:=fun j hj=>hall j (by rw[hsz];exact hj)
  obtain⟨hw,-,-,-,k3,k4⟩:=hI.world
  rw[all 7 (by decide)] at k3
  rw[all 8 (by decide)] at k4
  exact fin a w hI.size hI.defers hI.kept hw k3 k4
theorem checked_none (M:Md)(E L N O:SL)(Y U D:Nat→Nat→SL)(La:SL)(Ya:Nat→Nat→SL)(w:World)(hM:ModAt w E L N O Y U D M.m)(hE:checkB M.d M.h M.l M.v M.u M.x M.t M.n M.m=0)(hr0:M.r=0) :
  Calls Tryz.prog 75 #[.agg #[.int .i64 M.d,.int .i64 M.h,.int .i64 M.l,.int .i64 M.v,.int .i64 M.u,.int .i64 M.x,.int .i64 M.t,.int .i64 M.n,.slice E.a E.n E.c,.slice L.a L.n L.c,.slice N.a N.n N.c,.slice O.a O.n O.c],.agg #[.int .i64 M.r,.int .i64 M.s,.slice La.a La.n La.c]] w fun e w'=>e=.returned (.tuple #[.agg #[.int .i64 M.d,.int .i64 M.h,.int .i64 M.l,.int .i64 M.v,.int .i64 M.u,.int .i64 M.x,.int .i64 M.t,.int .i64 M.n,.slice E.a E.n E.c,.slice L.a L.n L.c,.slice N.a N.n N.c,.slice O.a O.n O.c],.agg #[.int .i64 M.r,.int .i64 M.s,.slice La.a La.n La.c]])∧Below w.heap.size w w':=by
 have hb0:=bNw (bNw (bNw (bNw (Below.refl w.heap.size w) (.cells #[.int .i64 M.d,.int .i64 M.h,.int .i64 M.l,.int .i64 M.v,.int .i64 M.u,.int .i64 M.x,.int .i64 M.t,.int .i64 M.n,.slice E.a E.n E.c,.slice L.a L.n L.c,.slice N.a N.n N.c,.slice O.a O.n O.c] 34)) (.cells #[.int .i64 M.r,.int .i64 M.s,.slice La.a La.n La.c] 37)) (.cells #[.int .i64 0,.int .i64 0,.int .i64 0,.int .i64 0,.int .i64 0,.int .i64 0,.int .i64 0,.int .i64 0,.slice none 0 0,.slice none 0 0,.slice none 0 0,.slice none 0 0] 34)) (.cells #[.int .i64 0,.int .i64 0,.slice none 0 0] 37)
 have q1:Blk 34 ((((w.alloc (.cells #[.int .i64 M.d,.int .i64 M.h,.int .i64 M.l,.int .i64 M.v,.int .i64 M.u,.int .i64 M.x,.int .i64 M.t,.int .i64 M.n,.slice E.a E.n E.c,.slice L.a L.n L.c,.slice N.a N.n N.c,.slice O.a O.n O.c] 34)).alloc (.cells #[.int .i64 M.r,.int .i64 M.s,.slice La.a La.n La.c] 37)).alloc (.cells #[.int .i64 0,.int .i64 0,.int .i64 0,.int .i64 0,.int .i64 0,.int .i64 0,.int .i64 0,.int .i64 0,.slice none 0 0,.slice none 0 0,.slice none 0 0,.slice none 0 0] 34)).alloc (.cells #[.int .i64 0,.int .i64 0,.slice none 0 0] 37)) w.heap.size #[.int .i64 M.d,.int .i64 M.h,.int .i64 M.l,.int .i64 M.v,.int .i64 M.u,.int .i64 M.x,.int .i64 M.t,.int .i64 M.n,.slice E.a E.n E.c,.slice L.a L.n L.c,.slice N.a N.n N.c,.slice O.a O.n O.c]:=(Blk.new 34 w _).kept (bNw (bNw (bNw (Below.refl _ _) _) _) _)
 have q2:Blk 37 ((((w.alloc (.cells #[.int .i64 M.d,.int .i64 M.h,.int .i64 M.l,.int .i64 M.v,.int .i64 M.u,.int .i64 M.x,.int .i64 M.t,.int .i64 M.n,.slice E.a E.n E.c,.slice L.a L.n L.c,.slice N.a N.n N.c,.slice O.a O.n O.c] 34)).alloc (.cells #[.int .i64 M.r,.int .i64 M.s,.slice La.a La.n La.c] 37)).alloc (.cells #[.int .i64 0,.int .i64 0,.int .i64 0,.int .i64 0,.int .i64 0,.int .i64 0,.int .i64 0,.int .i64 0,.slice none 0 0,.slice none 0 0,.slice none 0 0,.slice none 0 0] 34)).alloc (.cells #[.int .i64 0,.int .i64 0,.slice none 0 0] 37)) (w.heap.size+1) #[.int .i64 M.r,.int .i64 M.s,.slice La.a La.n La.c]:=(Blk.new_at 37 (w.alloc _) _ _ (by simp)).kept (bNw (bNw (Below.refl _ _) _) _)
 have q3:Blk 34 ((((w.alloc (.cells #[.int .i64 M.d,.int .i64 M.h,.int .i64 M.l,.int .i64 M.v,.int .i64 M.u,.int .i64 M.x,.int .i64 M.t,.int .i64 M.n,.slice E.a E.n E.c,.slice L.a L.n L.c,.slice N.a N.n N.c,.slice O.a O.n O.c] 34)).alloc (.cells #[.int .i64 M.r,.int .i64 M.s,.slice La.a La.n La.c] 37)).alloc (.cells #[.int .i64 0,.int .i64 0,.int .i64 0,.int .i64 0,.int .i64 0,.int .i64 0,.int .i64 0,.int .i64 0,.slice none 0 0,.slice none 0 0,.slice none 0 0,.slice none 0 0] 34)).alloc (.cells #[.int .i64 0,.int .i64 0,.slice none 0 0] 37)) (w.heap.size+1+1) #[.int .i64 0,.int .i64 0,.int .i64 0,.int .i64 0,.int .i64 0,.int .i64 0,.int .i64 0,.int .i64 0,.slice none 0 0,.slice none 0 0,.slice none 0 0,.slice none 0 0]:=(Blk.new_at 34 ((w.alloc _).alloc _) _ _ (by simp)).kept (bNw (Below.refl _ _) _)
 have q4:Blk 37 ((((w.alloc (.cells #[.int .i64 M.d,.int .i64 M.h,.int .i64 M.l,.int .i64 M.v,.int .i64 M.u,.int .i64 M.x,.int .i64 M.t,.int .i64 M.n,.slice E.a E.n E.c,.slice L.a L.n L.c,.slice N.a N.n N.c,.slice O.a O.n O.c] 34)).alloc (.cells #[.int .i64 M.r,.int .i64 M.s,.slice La.a La.n La.c] 37)).alloc (.cells #[.int .i64 0,.int .i64 0,.int .i64 0,.int .i64 0,.int .i64 0,.int .i64 0,.int .i64 0,.int .i64 0,.slice none 0 0,.slice none 0 0,.slice none 0 0,.slice none 0 0] 34)).alloc (.cells #[.int .i64 0,.int .i64 0,.slice none 0 0] 37)) (w.heap.size+1+1+1) #[.int .i64 0,.int .i64 0,.slice none 0 0]:=Blk.new_at 37 (((w.alloc _).alloc _).alloc _) _ _ (by simp)
 have kc:=fun (W:World) (hb:Below w.heap.size w W)=>check_call M.d M.h M.l M.v M.u M.x M.t M.n E L N O Y U D M.m W (hM.below hb)
 have hnot:∀ (x:Bool) (w:World),(Op.unary .not (.bool x)).run Tryz.prog w=.ok (.bool (!x)) w:=fun _ _=>rfl
 rw[hE] at kc
 have kg:=grafted_no M.r M.s La hr0
 clear hr0 hE
 go_enter Tryz.func75,Tryz.ntmps75
 go_wp2
 refine cy_region M E L N O 0 w.heap.size q1 (by kernel_rfl) rfl ⟨_,rfl,rfl,rfl,rfl,by kernel_rfl⟩ ⟨_,rfl,rfl,rfl,rfl,by kernel_rfl⟩ ⟨_,rfl,rfl,rfl,rfl,by kernel_rfl⟩ ⟨_,rfl,rfl,rfl,rfl,by kernel_rfl⟩ ⟨_,rfl,rfl,rfl,rfl,by kernel_rfl⟩ rfl (fun W hb=>kc W (bTn hb0 hb)) (fun W=>mdmustM_yes M.d M.h M.l M.v M.u M.x M.t M.n E L N O W) (Nat.le_of_ble_eq_true rfl) ?_
 intro a W2 hs hd hkp hb2
 have ep:=fPu [6,7,8,9] hs hd (fun s h=>hkp s (fun j hj e=>h (by
  rcases (show j=0∨j=1∨j=2∨j=3∨j=4 by omega) with rfl|rfl|rfl|rfl|rfl<;>first|(simp only[cyD,Option.some.injEq] at e;subst e;simp;done)|(simp[cyD] at e))))
 simp only[List.foldl] at ep
 clear hs hd hkp
 generalize a.tmps.getD 6 undef=g6,a.tmps.getD 7 undef=g7,a.tmps.getD 8 undef=g8,a.tmps.getD 9 undef=g9 at ep
 simp only[Act.put,List.setIfInBounds_toArray,List.set_cons_succ,List.set_cons_zero] at ep
 subst ep
 have hb:=bTn hb0 hb2
 have Q1:=hdn (q1.kept hb2)
 have Q2:=hdn (q2.kept hb2)
 have Q3:=hdn (q3.kept hb2)
 have Q4:=hdn (q4.kept hb2)
 obtain⟨s0,s1,s2⟩:=(q2.kept hb2).c3
 clear q1 q2 q3 q4 hb0 hb2 kc
 go_wp2_with (go_at_call 107;refine (kg _).mono ?_;rintro e W3 ⟨rfl,h3⟩;clear kg;have hb3:=bTn hb h3;have P1:=hdn (Q1.out.kept h3);have P2:=hdn (Q2.out.kept h3);have P3:=hdn (Q3.out.kept h3);have P4:=hdn (Q4.out.kept h3);clear h3 hb Q1 Q2 Q3 Q4 s0 s1 s2)
 refine c3_region M E L N O La w.heap.size (w.heap.size+1) (w.heap.size+1+1) (w.heap.size+1+1+1) 0 w.heap.size w (by omega) (by omega) (by omega) (by kernel_rfl) rfl ⟨_,rfl,rfl,rfl,rfl,by kernel_rfl⟩ ⟨_,rfl,rfl,rfl,rfl,by kernel_rfl⟩ ⟨_,rfl,rfl,rfl,rfl,by kernel_rfl⟩ ⟨_,rfl,rfl,rfl,rfl,by kernel_rfl⟩ rfl rfl rfl rfl (by omega) ⟨hb3.drew,hb3.size,P1.out,P2.out,P3.out,P4.out⟩ (Nat.le_of_ble_eq_true rfl) ?_
 intro a W5 hs hd hkp hb5 r3 r4
 have ep:=fPu [13,14] hs hd (fun s h=>hkp s (fun j hj e=>h (by
  rcases (show j=0∨j=1∨j=2∨j=3 by omega) with rfl|rfl|rfl|rfl<;>first|(simp only[c3D,Option.some.injEq] at e;subst e;simp;done)|(simp[c3D] at e))))
 simp only[List.foldl] at ep
 clear hs hd hkp
 generalize a.tmps.getD 13 undef=g13,a.tmps.getD 14 undef=g14 at ep
 simp only[Act.put,List.setIfInBounds_toArray,List.set_cons_succ,List.set_cons_zero] at ep
 subst ep
 obtain⟨y0,y1,y2,y3,y4,y5,y6,y7,y8,y9,y10,y11⟩:=r3.c12
 obtain⟨z0,z1,z2⟩:=r4.c3
 go_wp2
 refine bodyPost_ret (v:=.tuple #[.agg #[.int .i64 M.d,.int .i64 M.h,.int .i64 M.l,.int .i64 M.v,.int .i64 M.u,.int .i64 M.x,.int .i64 M.t,.int .i64 M.n,.slice E.a E.n E.c,.slice L.a L.n L.c,.slice N.a N.n N.c,.slice O.a O.n O.c],.agg #[.int .i64 M.r,.int .i64 M.s,.slice La.a La.n La.c]]) ?_ rfl ⟨rfl,hb5⟩
 simp[results,Tryz.results75,go_sem,y0,y1,y2,y3,y4,y5,y6,y7,y8,y9,y10,y11,z0,z1,z2]
theorem checked_yes (M:Md)(E L N O:SL)(Y U D:Nat→Nat→SL)(La:SL)(Ya:Nat→Nat→SL)(w:World)(hM:ModAt w E L N O Y U D M.m)(hA:AdAt w La Ya M.a)(hE:checkB M.d M.h M.l M.v M.u M.x M.t M.n M.m=0)(hr0:M.r≠0)(hEA:checkA M.r M.s M.d M.h M.l M.v M.u M.x M.t M.n M.a=0) :
  Calls Tryz.prog 75 #[.agg #[.int .i64 M.d,.int .i64 M.h,.int .i64 M.l,.int .i64 M.v,.int .i64 M.u,.int .i64 M.x,.int .i64 M.t,.int .i64 M.n,.slice E.a E.n E.c,.slice L.a L.n L.c,.slice N.a N.n N.c,.slice O.a O.n O.c],.agg #[.int .i64 M.r,.int .i64 M.s,.slice La.a La.n La.c]] w fun e w'=>e=.returned (.tuple #[.agg #[.int .i64 M.d,.int .i64 M.h,.int .i64 M.l,.int .i64 M.v,.int .i64 M.u,.int .i64 M.x,.int .i64 M.t,.int .i64 M.n,.slice E.a E.n E.c,.slice L.a L.n L.c,.slice N.a N.n N.c,.slice O.a O.n O.c],.agg #[.int .i64 M.r,.int .i64 M.s,.slice La.a La.n La.c]])∧Below w.heap.size w w':=by
 have hb0:=bNw (bNw (bNw (bNw (Below.refl w.heap.size w) (.cells #[.int .i64 M.d,.int .i64 M.h,.int .i64 M.l,.int .i64 M.v,.int .i64 M.u,.int .i64 M.x,.int .i64 M.t,.int .i64 M.n,.slice E.a E.n E.c,.slice L.a L.n L.c,.slice N.a N.n N.c,.slice O.a O.n O.c] 34)) (.cells #[.int .i64 M.r,.int .i64 M.s,.slice La.a La.n La.c] 37)) (.cells #[.int .i64 0,.int .i64 0,.int .i64 0,.int .i64 0,.int .i64 0,.int .i64 0,.int .i64 0,.int .i64 0,.slice none 0 0,.slice none 0 0,.slice none 0 0,.slice none 0 0] 34)) (.cells #[.int .i64 0,.int .i64 0,.slice none 0 0] 37)
 have q1:Blk 34 ((((w.alloc (.cells #[.int .i64 M.d,.int .i64 M.h,.int .i64 M.l,.int .i64 M.v,.int .i64 M.u,.int .i64 M.x,.int .i64 M.t,.int .i64 M.n,.slice E.a E.n E.c,.slice L.a L.n L.c,.slice N.a N.n N.c,.slice O.a O.n O.c] 34)).alloc (.cells #[.int .i64 M.r,.int .i64 M.s,.slice La.a La.n La.c] 37)).alloc (.cells #[.int .i64 0,.int .i64 0,.int .i64 0,.int .i64 0,.int .i64 0,.int .i64 0,.int .i64 0,.int .i64 0,.slice none 0 0,.slice none 0 0,.slice none 0 0,.slice none 0 0] 34)).alloc (.cells #[.int .i64 0,.int .i64 0,.slice none 0 0] 37)) w.heap.size #[.int .i64 M.d,.int .i64 M.h,.int .i64 M.l,.int .i64 M.v,.int .i64 M.u,.int .i64 M.x,.int .i64 M.t,.int .i64 M.n,.slice E.a E.n E.c,.slice L.a L.n L.c,.slice N.a N.n N.c,.slice O.a O.n O.c]:=(Blk.new 34 w _).kept (bNw (bNw (bNw (Below.refl _ _) _) _) _)
 have q2:Blk 37 ((((w.alloc (.cells #[.int .i64 M.d,.int .i64 M.h,.int .i64 M.l,.int .i64 M.v,.int .i64 M.u,.int .i64 M.x,.int .i64 M.t,.int .i64 M.n,.slice E.a E.n E.c,.slice L.a L.n L.c,.slice N.a N.n N.c,.slice O.a O.n O.c] 34)).alloc (.cells #[.int .i64 M.r,.int .i64 M.s,.slice La.a La.n La.c] 37)).alloc (.cells #[.int .i64 0,.int .i64 0,.int .i64 0,.int .i64 0,.int .i64 0,.int .i64 0,.int .i64 0,.int .i64 0,.slice none 0 0,.slice none 0 0,.slice none 0 0,.slice none 0 0] 34)).alloc (.cells #[.int .i64 0,.int .i64 0,.slice none 0 0] 37)) (w.heap.size+1) #[.int .i64 M.r,.int .i64 M.s,.slice La.a La.n La.c]:=(Blk.new_at 37 (w.alloc _) _ _ (by simp)).kept (bNw (bNw (Below.refl _ _) _) _)
 have q3:Blk 34 ((((w.alloc (.cells #[.int .i64 M.d,.int .i64 M.h,.int .i64 M.l,.int .i64 M.v,.int .i64 M.u,.int .i64 M.x,.int .i64 M.t,.int .i64 M.n,.slice E.a E.n E.c,.slice L.a L.n L.c,.slice N.a N.n N.c,.slice O.a O.n O.c] 34)).alloc (.cells #[.int .i64 M.r,.int .i64 M.s,.slice La.a La.n La.c] 37)).alloc (.cells #[.int .i64 0,.int .i64 0,.int .i64 0,.int .i64 0,.int .i64 0,.int .i64 0,.int .i64 0,.int .i64 0,.slice none 0 0,.slice none 0 0,.slice none 0 0,.slice none 0 0] 34)).alloc (.cells #[.int .i64 0,.int .i64 0,.slice none 0 0] 37)) (w.heap.size+1+1) #[.int .i64 0,.int .i64 0,.int .i64 0,.int .i64 0,.int .i64 0,.int .i64 0,.int .i64 0,.int .i64 0,.slice none 0 0,.slice none 0 0,.slice none 0 0,.slice none 0 0]:=(Blk.new_at 34 ((w.alloc _).alloc _) _ _ (by simp)).kept (bNw (Below.refl _ _) _)
 have q4:Blk 37 ((((w.alloc (.cells #[.int .i64 M.d,.int .i64 M.h,.int .i64 M.l,.int .i64 M.v,.int .i64 M.u,.int .i64 M.x,.int .i64 M.t,.int .i64 M.n,.slice E.a E.n E.c,.slice L.a L.n L.c,.slice N.a N.n N.c,.slice O.a O.n O.c] 34)).alloc (.cells #[.int .i64 M.r,.int .i64 M.s,.slice La.a La.n La.c] 37)).alloc (.cells #[.int .i64 0,.int .i64 0,.int .i64 0,.int .i64 0,.int .i64 0,.int .i64 0,.int .i64 0,.int .i64 0,.slice none 0 0,.slice none 0 0,.slice none 0 0,.slice none 0 0] 34)).alloc (.cells #[.int .i64 0,.int .i64 0,.slice none 0 0] 37)) (w.heap.size+1+1+1) #[.int .i64 0,.int .i64 0,.slice none 0 0]:=Blk.new_at 37 (((w.alloc _).alloc _).alloc _) _ _ (by simp)
 have kc:=fun (W:World) (hb:Below w.heap.size w W)=>check_call M.d M.h M.l M.v M.u M.x M.t M.n E L N O Y U D M.m W (hM.below hb)
 have hnot:∀ (x:Bool) (w:World),(Op.unary .not (.bool x)).run Tryz.prog w=.ok (.bool (!x)) w:=fun _ _=>rfl
 have ka:=fun (W:World) (hb:Below w.heap.size w W)=>grcheck_call M.r M.s M.d M.h M.l M.v M.u M.x M.t M.n La Ya M.a W (hA.below hb)
 rw[hE] at kc
 rw[hEA] at ka
 have kg:=grafted_yes M.r M.s La hr0
 clear hr0 hE hEA
 go_enter Tryz.func75,Tryz.ntmps75
 go_wp2
 refine cy_region M E L N O 0 w.heap.size q1 (by kernel_rfl) rfl ⟨_,rfl,rfl,rfl,rfl,by kernel_rfl⟩ ⟨_,rfl,rfl,rfl,rfl,by kernel_rfl⟩ ⟨_,rfl,rfl,rfl,rfl,by kernel_rfl⟩ ⟨_,rfl,rfl,rfl,rfl,by kernel_rfl⟩ ⟨_,rfl,rfl,rfl,rfl,by kernel_rfl⟩ rfl (fun W hb=>kc W (bTn hb0 hb)) (fun W=>mdmustM_yes M.d M.h M.l M.v M.u M.x M.t M.n E L N O W) (Nat.le_of_ble_eq_true rfl) ?_
 intro a W2 hs hd hkp hb2
 have ep:=fPu [6,7,8,9] hs hd (fun s h=>hkp s (fun j hj e=>h (by
  rcases (show j=0∨j=1∨j=2∨j=3∨j=4 by omega) with rfl|rfl|rfl|rfl|rfl<;>first|(simp only[cyD,Option.some.injEq] at e;subst e;simp;done)|(simp[cyD] at e))))
 simp only[List.foldl] at ep
 clear hs hd hkp
 generalize a.tmps.getD 6 undef=g6,a.tmps.getD 7 undef=g7,a.tmps.getD 8 undef=g8,a.tmps.getD 9 undef=g9 at ep
 simp only[Act.put,List.setIfInBounds_toArray,List.set_cons_succ,List.set_cons_zero] at ep
 subst ep
 have hb:=bTn hb0 hb2
 have Q1:=hdn (q1.kept hb2)
 have Q2:=hdn (q2.kept hb2)
 have Q3:=hdn (q3.kept hb2)
 have Q4:=hdn (q4.kept hb2)
 obtain⟨s0,s1,s2⟩:=(q2.kept hb2).c3
 clear q1 q2 q3 q4 hb0 hb2 kc
 go_wp2_with (go_at_call 107;refine (kg _).mono ?_;rintro e W3 ⟨rfl,h3⟩;clear kg;have hb3:=bTn hb h3;have P1:=hdn (Q1.out.kept h3);have P2:=hdn (Q2.out.kept h3);have P3:=hdn (Q3.out.kept h3);have P4:=hdn (Q4.out.kept h3);clear h3 hb Q1 Q2 Q3 Q4 s0 s1 s2)
 refine c4_region M E L N O La w.heap.size (w.heap.size+1) (w.heap.size+1+1) (w.heap.size+1+1+1) 0 w.heap.size w (by omega) (by omega) (by omega) (by kernel_rfl) rfl ⟨_,rfl,rfl,rfl,rfl,by kernel_rfl⟩ ⟨_,rfl,rfl,rfl,rfl,by kernel_rfl⟩ ⟨_,rfl,rfl,rfl,rfl,by kernel_rfl⟩ ⟨_,rfl,rfl,rfl,rfl,by kernel_rfl⟩ ⟨_,rfl,rfl,rfl,rfl,by kernel_rfl⟩ ⟨_,rfl,rfl,rfl,rfl,by kernel_rfl⟩ ⟨_,rfl,rfl,rfl,rfl,by kernel_rfl⟩ ⟨_,rfl,rfl,rfl,rfl,by kernel_rfl⟩ ⟨_,rfl,rfl,rfl,rfl,by kernel_rfl⟩ rfl rfl rfl rfl (by omega) ⟨hb3.drew,hb3.size,P1.out,P2.out,P3.out,P4.out⟩ ka (fun W=>mdmustA_yes M.r M.s La W) (Nat.le_of_ble_eq_true rfl) ?_
 intro a W5 hs hd hkp hb5 r3 r4
 have ep:=fPu [15,16,17,18,19,20,21] hs hd (fun s h=>hkp s (fun j hj e=>h (by
  rcases (show j=0∨j=1∨j=2∨j=3∨j=4∨j=5∨j=6∨j=7∨j=8 by omega) with rfl|rfl|rfl|rfl|rfl|rfl|rfl|rfl|rfl<;>first|(simp only[c4D,Option.some.injEq] at e;subst e;simp;done)|(simp[c4D] at e))))
 simp only[List.foldl] at ep
 clear hs hd hkp
 generalize a.tmps.getD 15 undef=g15,a.tmps.getD 16 undef=g16,a.tmps.getD 17 undef=g17,a.tmps.getD 18 undef=g18,a.tmps.getD 19 undef=g19,a.tmps.getD 20 undef=g20,a.tmps.getD 21 undef=g21 at ep
 simp only[Act.put,List.setIfInBounds_toArray,List.set_cons_succ,List.set_cons_zero] at ep
 subst ep
 obtain⟨y0,y1,y2,y3,y4,y5,y6,y7,y8,y9,y10,y11⟩:=r3.c12
 obtain⟨z0,z1,z2⟩:=r4.c3
 go_wp2
 refine bodyPost_ret (v:=.tuple #[.agg #[.int .i64 M.d,.int .i64 M.h,.int .i64 M.l,.int .i64 M.v,.int .i64 M.u,.int .i64 M.x,.int .i64 M.t,.int .i64 M.n,.slice E.a E.n E.c,.slice L.a L.n L.c,.slice N.a N.n N.c,.slice O.a O.n O.c],.agg #[.int .i64 M.r,.int .i64 M.s,.slice La.a La.n La.c]]) ?_ rfl ⟨rfl,hb5⟩
 simp[results,Tryz.results75,go_sem,y0,y1,y2,y3,y4,y5,y6,y7,y8,y9,y10,y11,z0,z1,z2]
def badE (M:Md):Int:=if checkB M.d M.h M.l M.v M.u M.x M.t M.n M.m=0 then (if M.r=0 then 0 else checkA M.r M.s M.d M.h M.l M.v M.u M.x M.t M.n M.a) else checkB M.d M.h M.l M.v M.u M.x M.t M.n M.m
theorem badE_ok {M:Md}(h:badE M=0):MdOk M:=by
 unfold badE at h
 by_cases h1:checkB M.d M.h M.l M.v M.u M.x M.t M.n M.m=0
 ·rw[if_pos h1] at h
  refine⟨?_,h1,fun hr=>?_⟩
  ·unfold checkB at h1
   cases ok:okB M.d M.h M.l M.v M.u M.x M.t M.n with
   | true=>rfl
   | false=>rw[ok,if_neg (by decide)] at h1;exact absurd h1 (by decide)
  ·rw[if_neg hr] at h
   exact h
 ·rw[if_neg h1] at h
  exact absurd h h1
theorem MdOk.none_bad {M:Md}(h:MdOk M):badE M=0:=by
 unfold badE
 rw[if_pos h.ck]
 by_cases hr:M.r=0
 ·rw[if_pos hr]
 ·rw[if_neg hr,h.ad hr]
theorem checked_ok (M:Md)(E L N O:SL)(Y U D:Nat→Nat→SL)(La:SL)(Ya:Nat→Nat→SL)(w:World)(hM:ModAt w E L N O Y U D M.m)(hA:AdAt w La Ya M.a)(h:badE M=0):Calls Tryz.prog 75 #[.agg #[.int .i64 M.d,.int .i64 M.h,.int .i64 M.l,.int .i64 M.v,.int .i64 M.u,.int .i64 M.x,.int .i64 M.t,.int .i64 M.n,.slice E.a E.n E.c,.slice L.a L.n L.c,.slice N.a N.n N.c,.slice O.a O.n O.c],.agg #[.int .i64 M.r,.int .i64 M.s,.slice La.a La.n La.c]] w fun e w'=>e=.returned (.tuple #[.agg #[.int .i64 M.d,.int .i64 M.h,.int .i64 M.l,.int .i64 M.v,.int .i64 M.u,.int .i64 M.x,.int .i64 M.t,.int .i64 M.n,.slice E.a E.n E.c,.slice L.a L.n L.c,.slice N.a N.n N.c,.slice O.a O.n O.c],.agg #[.int .i64 M.r,.int .i64 M.s,.slice La.a La.n La.c]])∧Below w.heap.size w w':=by
 have k:=badE_ok h
 by_cases hr:M.r=0
 ·exact checked_none M E L N O Y U D La Ya w hM k.ck hr
 ·exact checked_yes M E L N O Y U D La Ya w hM hA k.ck hr (k.ad hr)
theorem Run_ok (M:Md)(E L N O:SL)(Y U D:Nat→Nat→SL)(La:SL)(Ya:Nat→Nat→SL)(w:World)(hM:ModAt w E L N O Y U D M.m)(hA:AdAt w La Ya M.a)(ta:Option Addr)(n tc:Nat)(RP:World→Option Addr→Nat→Nat→Option Addr→Nat→Nat→Prop)(hE:badE M=0)(k:∀ W,Below w.heap.size w W→Calls Tryz.prog 76 #[.agg #[.int .i64 M.d,.int .i64 M.h,.int .i64 M.l,.int .i64 M.v,.int .i64 M.u,.int .i64 M.x,.int .i64 M.t,.int .i64 M.n,.slice E.a E.n E.c,.slice L.a L.n L.c,.slice N.a N.n N.c,.slice O.a O.n O.c],.agg #[.int .i64 M.r,.int .i64 M.s,.slice La.a La.n La.c],.slice ta n tc] W fun e w'=>(∃ a m c b j k,e=.returned (.tuple #[.slice a m c,.slice b j k])∧RP w' a m c b j k)∧Below W.heap.size W w') :
  Calls Tryz.prog 41 #[.agg #[.int .i64 M.d,.int .i64 M.h,.int .i64 M.l,.int .i64 M.v,.int .i64 M.u,.int .i64 M.x,.int .i64 M.t,.int .i64 M.n,.slice E.a E.n E.c,.slice L.a L.n L.c,.slice N.a N.n N.c,.slice O.a O.n O.c],.agg #[.int .i64 M.r,.int .i64 M.s,.slice La.a La.n La.c],.slice ta n tc] w fun e w'=>(∃ a m c b j k,e=.returned (.tuple #[.slice a m c,.slice b j k,.int .i64 0])∧RP w' a m c b j k)∧Below w.heap.size w w':=by
 have hmf:∀ (fn:Fn) (first cap:Array Value) (w:World),(Instr.makeFunc fn first cap).run Tryz.prog w=.ok (.func fn first cap) w:=fun _ _ _ _=>rfl
 have hb0:=bNw (bNw (bNw (Below.refl w.heap.size w) (.cells #[.int .i64 M.d,.int .i64 M.h,.int .i64 M.l,.int .i64 M.v,.int .i64 M.u,.int .i64 M.x,.int .i64 M.t,.int .i64 M.n,.slice E.a E.n E.c,.slice L.a L.n L.c,.slice N.a N.n N.c,.slice O.a O.n O.c] 34)) (.cells #[.int .i64 M.r,.int .i64 M.s,.slice La.a La.n La.c] 37)) (.cells #[.int .i64 0] 40)
 have q1:Blk 34 (((w.alloc (.cells #[.int .i64 M.d,.int .i64 M.h,.int .i64 M.l,.int .i64 M.v,.int .i64 M.u,.int .i64 M.x,.int .i64 M.t,.int .i64 M.n,.slice E.a E.n E.c,.slice L.a L.n L.c,.slice N.a N.n N.c,.slice O.a O.n O.c] 34)).alloc (.cells #[.int .i64 M.r,.int .i64 M.s,.slice La.a La.n La.c] 37)).alloc (.cells #[.int .i64 0] 40)) w.heap.size #[.int .i64 M.d,.int .i64 M.h,.int .i64 M.l,.int .i64 M.v,.int .i64 M.u,.int .i64 M.x,.int .i64 M.t,.int .i64 M.n,.slice E.a E.n E.c,.slice L.a L.n L.c,.slice N.a N.n N.c,.slice O.a O.n O.c]:=(Blk.new 34 w _).kept (bNw (bNw (Below.refl _ _) _) _)
 have q2:Blk 37 (((w.alloc (.cells #[.int .i64 M.d,.int .i64 M.h,.int .i64 M.l,.int .i64 M.v,.int .i64 M.u,.int .i64 M.x,.int .i64 M.t,.int .i64 M.n,.slice E.a E.n E.c,.slice L.a L.n L.c,.slice N.a N.n N.c,.slice O.a O.n O.c] 34)).alloc (.cells #[.int .i64 M.r,.int .i64 M.s,.slice La.a La.n La.c] 37)).alloc (.cells #[.int .i64 0] 40)) (w.heap.size+1) #[.int .i64 M.r,.int .i64 M.s,.slice La.a La.n La.c]:=(Blk.new_at 37 (w.alloc _) _ _ (by simp)).kept (bNw (Below.refl _ _) _)
 have q3:Blk 40 (((w.alloc (.cells #[.int .i64 M.d,.int .i64 M.h,.int .i64 M.l,.int .i64 M.v,.int .i64 M.u,.int .i64 M.x,.int .i64 M.t,.int .i64 M.n,.slice E.a E.n E.c,.slice L.a L.n L.c,.slice N.a N.n N.c,.slice O.a O.n O.c] 34)).alloc (.cells #[.int .i64 M.r,.int .i64 M.s,.slice La.a La.n La.c] 37)).alloc (.cells #[.int .i64 0] 40)) (w.heap.size+1+1) #[.int .i64 0]:=Blk.new_at 40 ((w.alloc _).alloc _) _ _ (by simp)
 obtain⟨c0,c1,c2,c3,c4,c5,c6,c7,c8,c9,c10,c11⟩:=q1.c12
 obtain⟨s0,s1,s2⟩:=q2.c3
 have k29:=checked_ok M E L N O Y U D La Ya (((w.alloc (.cells #[.int .i64 M.d,.int .i64 M.h,.int .i64 M.l,.int .i64 M.v,.int .i64 M.u,.int .i64 M.x,.int .i64 M.t,.int .i64 M.n,.slice E.a E.n E.c,.slice L.a L.n L.c,.slice N.a N.n N.c,.slice O.a O.n O.c] 34)).alloc (.cells #[.int .i64 M.r,.int .i64 M.s,.slice La.a La.n La.c] 37)).alloc (.cells #[.int .i64 0] 40)) (hM.below hb0) (hA.below hb0) hE
 go_enter_defers Tryz.func41,Tryz.ntmps41
 go_wp2_with (first
  | (go_at_call 75;refine k29.mono ?_;rintro e W1 ⟨rfl,h1⟩;clear k29;have hb1:=bTn hb0 h1;have Q1:=hdn (q1.kept h1);have Q2:=hdn (q2.kept h1);have Q3:=hdn (q3.kept h1);obtain⟨d0,d1,d2,d3,d4,d5,d6,d7,d8,d9,d10,d11⟩:=Q1.out.c12;obtain⟨t0,t1,t2⟩:=Q2.out.c3;obtain⟨o0,o1,o2,o3,o4,o5,o6,o7,o8,o9,o10,o11⟩:=Q1.out.o12;obtain⟨u0,u1,u2⟩:=Q2.out.o3;have E0:=sSa d0;have E1:=sSa d1;have E2:=sSa d2;have E3:=sSa d3;have E4:=sSa d4;have E5:=sSa d5;have E6:=sSa d6;have E7:=sSa d7;have E8:=sSa d8;have E9:=sSa d9;have E10:=sSa d10;have E11:=sSa d11;have F0:=sSa t0;have F1:=sSa t1;have F2:=sSa t2;clear h1 hb0 q1 q2 q3 c0 c1 c2 c3 c4 c5 c6 c7 c8 c9 c10 c11 s0 s1 s2)
  | (go_at_call 76;refine (k _ hb1).mono ?_;rintro e W2 ⟨⟨a9,m9,c9,b9,j9,k9,rfl,yy⟩,h2⟩;have hb2:=bTn hb1 h2;have z1:=(Q3.out.kept h2).cell 0 (v:=.int .i64 0) rfl;have z2:=(Q3.out.kept h2).open_ 0;have H:=hdn (And.intro yy hb2);clear h2 yy hb2 k))
 refine leaves_cons (f:=73) (args:=#[.pointer (some ⟨w.heap.size+1+1,0,none⟩)]) (by simp) (by simp[go_sem]) ?_
 rw[sSa z1]
 refine (catch_idle43 ⟨w.heap.size+1+1,0,none⟩ 0 _ z1 z2).mono ?_
 rintro e u' w'' ⟨rfl,rfl,rfl⟩
 rw[sSa z1]
 simp[Leaves,settle,results,Tryz.results41,go_sem,z1]
 exact⟨⟨a9,m9,c9,b9,j9,k9,⟨⟨rfl,rfl,rfl⟩,⟨rfl,rfl,rfl⟩⟩,H.out.1⟩,H.out.2⟩
end Go.Proofs.YtbkjhfmehemgpaaGreat
