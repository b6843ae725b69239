/- Texts put together. -/
import Derived.Test.YthliomlmhfjhnaaGreatRows
import Derived.Test.YthliomlmhfjhnaaGreatZf27
namespace Go.Proofs.YthliomlmhfjhnaaGreat
set_option maxRecDepth 20000
set_option maxHeartbeats 16000000
open Go.ChangeShapes Go.WideShapes Go.ChangeAt Go.RowKit
set_option linter.unusedVariables false
set_option linter.unusedSimpArgs false
section
theorem run_load27 {w:World}{b:Nat}{d h l v u x t n:Int}{E L N O:SL}(q:Blk 27 w b #[.int .i64 d,.int .i64 h,.int .i64 l,.int .i64 v,.int .i64 u,.int .i64 x,.int .i64 t,.int .i64 n,.slice E.a E.n E.c,.slice L.a L.n L.c,.slice N.a N.n N.c,.slice O.a O.n O.c]):(Instr.loadAt 27 (.pointer (some ⟨b,0,none⟩))).run Tryz.prog w=.ok (.agg #[.int .i64 d,.int .i64 h,.int .i64 l,.int .i64 v,.int .i64 u,.int .i64 x,.int .i64 t,.int .i64 n,.slice E.a E.n E.c,.slice L.a L.n L.c,.slice N.a N.n N.c,.slice O.a O.n O.c]) w:=by
 obtain⟨c0,c1,c2,c3,c4,c5,c6,c7,c8,c9,c10,c11⟩:=q.c12
 go_simp
theorem rL3 {w:World}{b:Nat}{r s:Int}{La:SL}(q:Blk 30 w b #[.int .i64 r,.int .i64 s,.slice La.a La.n La.c]):(Instr.loadAt 30 (.pointer (some ⟨b,0,none⟩))).run Tryz.prog w=.ok (.agg #[.int .i64 r,.int .i64 s,.slice La.a La.n La.c]) w:=by
 obtain⟨c0,c1,c2⟩:=q.c3
 go_simp
theorem run_store27s {w:World}{b:Nat}{x0 x1 x2 x3 x4 x5 x6 x7 x8 x9 x10 x11:Value}(q:Blk 27 w b #[x0,x1,x2,x3,x4,x5,x6,x7,x8,x9,x10,x11])(d h l v u x t n:Int)(E L N O:SL):∃ w',(Instr.storeAt 27 (.pointer (some ⟨b,0,none⟩)) (.agg #[.int .i64 d,.int .i64 h,.int .i64 l,.int .i64 v,.int .i64 u,.int .i64 x,.int .i64 t,.int .i64 n,.slice E.a E.n E.c,.slice L.a L.n L.c,.slice N.a N.n N.c,.slice O.a O.n O.c])).run Tryz.prog w=.ok () w'∧Blk 27 w' b #[.int .i64 d,.int .i64 h,.int .i64 l,.int .i64 v,.int .i64 u,.int .i64 x,.int .i64 t,.int .i64 n,.slice E.a E.n E.c,.slice L.a L.n L.c,.slice N.a N.n N.c,.slice O.a O.n O.c]∧Only b w w':=by
 obtain⟨c0,c1,c2,c3,c4,c5,c6,c7,c8,c9,c10,c11⟩:=q.c12
 obtain⟨o0,o1,o2,o3,o4,o5,o6,o7,o8,o9,o10,o11⟩:=q.o12
 obtain⟨W2,eW,q2,only,hz⟩:=set12 q (.int .i64 d) (.int .i64 h) (.int .i64 l) (.int .i64 v) (.int .i64 u) (.int .i64 x) (.int .i64 t) (.int .i64 n) (.slice E.a E.n E.c) (.slice L.a L.n L.c) (.slice N.a N.n N.c) (.slice O.a O.n O.c)
 exact⟨W2,by rw[←eW];go_simp,q2,only⟩
theorem run_store30s {w:World}{b:Nat}{x0 x1 x2:Value}(q:Blk 30 w b #[x0,x1,x2])(r s:Int)(La:SL):∃ w',(Instr.storeAt 30 (.pointer (some ⟨b,0,none⟩)) (.agg #[.int .i64 r,.int .i64 s,.slice La.a La.n La.c])).run Tryz.prog w=.ok () w'∧Blk 30 w' b #[.int .i64 r,.int .i64 s,.slice La.a La.n La.c]∧Only b w w':=by
 obtain⟨c0,c1,c2⟩:=q.c3
 obtain⟨o0,o1,o2⟩:=q.o3
 obtain⟨W2,eW,q2,only,hz⟩:=set3 q (.int .i64 r) (.int .i64 s) (.slice La.a La.n La.c)
 exact⟨W2,by rw[←eW];go_simp,q2,only⟩
theorem store_same27 {w:World}{b:Nat}{d h l v u x t n:Int}{E L N O:SL}(q:Blk 27 w b #[.int .i64 d,.int .i64 h,.int .i64 l,.int .i64 v,.int .i64 u,.int .i64 x,.int .i64 t,.int .i64 n,.slice E.a E.n E.c,.slice L.a L.n L.c,.slice N.a N.n N.c,.slice O.a O.n O.c]):(Instr.storeAt 27 (.pointer (some ⟨b,0,none⟩)) (.agg #[.int .i64 d,.int .i64 h,.int .i64 l,.int .i64 v,.int .i64 u,.int .i64 x,.int .i64 t,.int .i64 n,.slice E.a E.n E.c,.slice L.a L.n L.c,.slice N.a N.n N.c,.slice O.a O.n O.c])).run Tryz.prog w=.ok () w:=by
 obtain⟨c0,c1,c2,c3,c4,c5,c6,c7,c8,c9,c10,c11⟩:=q.c12
 obtain⟨o0,o1,o2,o3,o4,o5,o6,o7,o8,o9,o10,o11⟩:=q.o12
 obtain⟨W2,eW,q2,only,hz⟩:=set12 q (.int .i64 d) (.int .i64 h) (.int .i64 l) (.int .i64 v) (.int .i64 u) (.int .i64 x) (.int .i64 t) (.int .i64 n) (.slice E.a E.n E.c) (.slice L.a L.n L.c) (.slice N.a N.n N.c) (.slice O.a O.n O.c)
 have e:W2=w:=by
  rw[←eW,set_same c0,set_same c1,set_same c2,set_same c3,set_same c4,set_same c5,set_same c6,set_same c7,set_same c8,set_same c9,set_same c10,set_same c11]
 subst e
 conv=>rhs;rw[←eW]
 go_simp
def cyD (i:Nat):Option Nat:=match i with|0=>some 6|1=>some 7|2=>some 8|3=>some 9|_=>none
theorem cyD_inj:∀ i,i<5→∀ j,j<5→cyD i=cyD j→cyD i≠none→i=j:=by decide
theorem cyD_lt:∀ i,i<5→∀ d,cyD i=some d→d<22:=by
 intro i hi d h
 have:∀ i,i<5→(cyD i).all (fun d=>decide (d<22))=true:=by decide
 have:=this i hi
 rw[h] at this
 simpa using this
def cyF (M:Md)(E L N O:SL)(c:Int)(j:Nat)(q:Value):Prop:=match j with
 | 0=>q=.agg #[.int .i64 M.d,.int .i64 M.h,.int .i64 M.l,.int .i64 M.v,.int .i64 M.u,.int .i64 M.x,.int .i64 M.t,.int .i64 M.n,.slice E.a E.n E.c,.slice L.a L.n L.c,.slice N.a N.n N.c,.slice O.a O.n O.c]
 | 1=>q=.agg #[.int .i64 M.d,.int .i64 M.h,.int .i64 M.l,.int .i64 M.v,.int .i64 M.u,.int .i64 M.x,.int .i64 M.t,.int .i64 M.n,.slice E.a E.n E.c,.slice L.a L.n L.c,.slice N.a N.n N.c,.slice O.a O.n O.c]
 | 2=>q=.int .i64 c
 | 3=>q=.agg #[.int .i64 M.d,.int .i64 M.h,.int .i64 M.l,.int .i64 M.v,.int .i64 M.u,.int .i64 M.x,.int .i64 M.t,.int .i64 M.n,.slice E.a E.n E.c,.slice L.a L.n L.c,.slice N.a N.n N.c,.slice O.a O.n O.c]
 | _=>True
theorem cy_region {id:Nat}{ops:Array Oper}{Q:Exit→Act→World→Prop}{a0:Act}{w0:World}(M:Md)(E L N O:SL)(c:Int)(B:Nat)(hB:Blk 27 w0 B #[.int .i64 M.d,.int .i64 M.h,.int .i64 M.l,.int .i64 M.v,.int .i64 M.u,.int .i64 M.x,.int .i64 M.t,.int .i64 M.n,.slice E.a E.n E.c,.slice L.a L.n L.c,.slice N.a N.n N.c,.slice O.a O.n O.c])
  (hlow:lowB ops=true) (hsz:ops.size=5)
  (o0:OpIn ops 0 (some 6) (.load 27 (.tmp 2)) none []) (o1:OpIn ops 1 (some 7) (.load 27 (.tmp 2)) none []) (o2:OpIn ops 2 (some 8) (.call { callee:=.value (.func 47),args:=#[.tmp 7],argTypes:=#[27] }) none [1]) (o3:OpIn ops 3 (some 9) (.call { callee:=.value (.func 46),args:=#[.tmp 6,.tmp 8],argTypes:=#[27,35] }) none [0,2]) (o4:OpIn ops 4 none (.store 27 (.tmp 2) (.tmp 9)) none [3])
  (ub:a0.tmps.getD 2 undef=.pointer (some ⟨B,0,none⟩))
  (x2:∀ w,Below w0.heap.size w0 w→Calls Tryz.prog 47 #[.agg #[.int .i64 M.d,.int .i64 M.h,.int .i64 M.l,.int .i64 M.v,.int .i64 M.u,.int .i64 M.x,.int .i64 M.t,.int .i64 M.n,.slice E.a E.n E.c,.slice L.a L.n L.c,.slice N.a N.n N.c,.slice O.a O.n O.c]] w fun e w'=>e=.returned (.int .i64 c)∧Below w.heap.size w w')
  (x3:∀ w,Calls Tryz.prog 46 #[.agg #[.int .i64 M.d,.int .i64 M.h,.int .i64 M.l,.int .i64 M.v,.int .i64 M.u,.int .i64 M.x,.int .i64 M.t,.int .i64 M.n,.slice E.a E.n E.c,.slice L.a L.n L.c,.slice N.a N.n N.c,.slice O.a O.n O.c],.int .i64 c] w fun e w'=>e=.returned (.agg #[.int .i64 M.d,.int .i64 M.h,.int .i64 M.l,.int .i64 M.v,.int .i64 M.u,.int .i64 M.x,.int .i64 M.t,.int .i64 M.n,.slice E.a E.n E.c,.slice L.a L.n L.c,.slice N.a N.n N.c,.slice O.a O.n O.c])∧Below w.heap.size w w')
  (hs:22≤a0.tmps.size)
  (fin:∀ a w,a.tmps.size=a0.tmps.size→a.defers=a0.defers→(∀ s,(∀ i,i<5→cyD i≠some s)→a.tmps.getD s undef=a0.tmps.getD s undef)→Below w0.heap.size w0 w→Q .normal a w):(Code.region id ops true).wp Tryz.prog Q a0 w0:=by
 have r47:∀ args w,(callFunc 47 args).run Tryz.prog w=.ok (.enter 47 args) w:=eNo Tryz.func47 (by kernel_rfl) rfl
 have r46:∀ args w,(callFunc 46 args).run Tryz.prog w=.ok (.enter 46 args) w:=eNo Tryz.func46 (by kernel_rfl) rfl
 refine wp_region_inv2 (by kernel_rfl) hlow (Inv 5 cyD a0 (fun _ _ w=>Below w0.heap.size w0 w) (fun _ j q _=>cyF M E L N O c j q)) (Inv.start (Below.refl _ _).drew) ?_ ?_
 ·intro k i o a w ho hl hcl hdep hI
  have hi:i<5:=by rw[←hsz];exact (Array.getElem?_eq_some_iff.1 ho).1
  have ev:∀ (s:Nat),a.eval (.tmp s)=a.tmps.getD s undef:=fun _=>rfl
  have evf:∀ f,a.eval (.func f)=.func (.func f) #[] #[]:=fun _=>rfl
  have inj:∀ d,cyD i=some d→∀ j d',j<5→cyD j=some d'→j≠i→d'≠d:=fun d hd j d' hj hd' hne e=>hne (cyD_inj j hj i hi (by rw[hd',hd,e]) (by rw[hd'];simp))
  have kp:∀ s,(∀ i,i<5→cyD i≠some s)→a.tmps.getD s undef=a0.tmps.getD s undef:=hI.kept
  have hw:Below w0.heap.size w0 w:=hI.world
  have U:a.tmps.getD 2 undef=.pointer (some ⟨B,0,none⟩):=(kp 2 (by decide)).trans ub
  have go:∀ {d:Nat}{v:Value}{w':World},cyD i=some d→Below w.heap.size w w'→cyF M E L N O c i v→Inv 5 cyD a0 (fun _ _ w=>Below w0.heap.size w0 w) (fun _ j q _=>cyF M E L N O c j q) (fun j=>k j || j==i) (a.put (some d) v) w':=by
   intro d v w' hD hb hF
   exact hI.put hi hD (Nat.lt_of_lt_of_le (cyD_lt i hi d hD) hs) (inj d hD) (bTn hw hb) hF (fun j u _ _ _ hf=>hf)
  rcases (show i=0∨i=1∨i=2∨i=3∨i=4 by omega) with rfl|rfl|rfl|rfl|rfl
  ·obtain⟨o',e1,e2,e3,e4,e5⟩:=o0
   obtain rfl:=sOp ho e1
   have dp:=dPo e5 hdep
   exact wVa (v:=.agg #[.int .i64 M.d,.int .i64 M.h,.int .i64 M.l,.int .i64 M.v,.int .i64 M.u,.int .i64 M.x,.int .i64 M.t,.int .i64 M.n,.slice E.a E.n E.c,.slice L.a L.n L.c,.slice N.a N.n N.c,.slice O.a O.n O.c]) (w':=w) ho e4 (by simp[execOp,e3,ev,U,run_load27 (hB.kept hw)]) (by rw[e2];exact go rfl (Below.refl _ _) rfl)
  ·obtain⟨o',e1,e2,e3,e4,e5⟩:=o1
   obtain rfl:=sOp ho e1
   have dp:=dPo e5 hdep
   exact wVa (v:=.agg #[.int .i64 M.d,.int .i64 M.h,.int .i64 M.l,.int .i64 M.v,.int .i64 M.u,.int .i64 M.x,.int .i64 M.t,.int .i64 M.n,.slice E.a E.n E.c,.slice L.a L.n L.c,.slice N.a N.n N.c,.slice O.a O.n O.c]) (w':=w) ho e4 (by simp[execOp,e3,ev,U,run_load27 (hB.kept hw)]) (by rw[e2];exact go rfl (Below.refl _ _) rfl)
  ·obtain⟨o',e1,e2,e3,e4,e5⟩:=o2
   obtain rfl:=sOp ho e1
   have dp:=dPo e5 hdep
   have V1:a.tmps.getD 7 undef=.agg #[.int .i64 M.d,.int .i64 M.h,.int .i64 M.l,.int .i64 M.v,.int .i64 M.u,.int .i64 M.x,.int .i64 M.t,.int .i64 M.n,.slice E.a E.n E.c,.slice L.a L.n L.c,.slice N.a N.n N.c,.slice O.a O.n O.c]:=hI.val 1 7 (by decide) rfl (dp 1 (by decide))
   refine wCa (f:=47) (args:=#[.agg #[.int .i64 M.d,.int .i64 M.h,.int .i64 M.l,.int .i64 M.v,.int .i64 M.u,.int .i64 M.x,.int .i64 M.t,.int .i64 M.n,.slice E.a E.n E.c,.slice L.a L.n L.c,.slice N.a N.n N.c,.slice O.a O.n O.c]]) ho e4 (by simp[execOp,e3,resolve,invoke,Deferred.ofValue,r47,ev,evf,V1]) ((x2 w hw).mono ?_)
   rintro e W' ⟨rfl,hb⟩
   refine⟨_,rfl,?_⟩
   rw[e2]
   exact go rfl hb rfl
  ·obtain⟨o',e1,e2,e3,e4,e5⟩:=o3
   obtain rfl:=sOp ho e1
   have dp:=dPo e5 hdep
   have V0:a.tmps.getD 6 undef=.agg #[.int .i64 M.d,.int .i64 M.h,.int .i64 M.l,.int .i64 M.v,.int .i64 M.u,.int .i64 M.x,.int .i64 M.t,.int .i64 M.n,.slice E.a E.n E.c,.slice L.a L.n L.c,.slice N.a N.n N.c,.slice O.a O.n O.c]:=hI.val 0 6 (by decide) rfl (dp 0 (by decide))
   have V2:a.tmps.getD 8 undef=.int .i64 c:=hI.val 2 8 (by decide) rfl (dp 2 (by decide))
   refine wCa (f:=46) (args:=#[.agg #[.int .i64 M.d,.int .i64 M.h,.int .i64 M.l,.int .i64 M.v,.int .i64 M.u,.int .i64 M.x,.int .i64 M.t,.int .i64 M.n,.slice E.a E.n E.c,.slice L.a L.n L.c,.slice N.a N.n N.c,.slice O.a O.n O.c],.int .i64 c]) ho e4 (by simp[execOp,e3,resolve,invoke,Deferred.ofValue,r46,ev,evf,V0,V2]) ((x3 w).mono ?_)
   rintro e W' ⟨rfl,hb⟩
   refine⟨_,rfl,?_⟩
   rw[e2]
   exact go rfl hb rfl
  ·obtain⟨o',e1,e2,e3,e4,e5⟩:=o4
   obtain rfl:=sOp ho e1
   have dp:=dPo e5 hdep
   have V3:a.tmps.getD 9 undef=.agg #[.int .i64 M.d,.int .i64 M.h,.int .i64 M.l,.int .i64 M.v,.int .i64 M.u,.int .i64 M.x,.int .i64 M.t,.int .i64 M.n,.slice E.a E.n E.c,.slice L.a L.n L.c,.slice N.a N.n N.c,.slice O.a O.n O.c]:=hI.val 3 9 (by decide) rfl (dp 3 (by decide))
   refine wSk (w':=w) ho e4 (by simp[execOp,e3,ev,U,V3,store_same27 (hB.kept hw)]) ?_
   rw[e2]
   exact hI.none_ rfl hw (fun j u _ _ _ hf=>hf)
 ·intro k a w hall hI
  have all:∀ j,j<5→k j=true:=fun j hj=>hall j (by rw[hsz];exact hj)
  exact fin a w hI.size hI.defers hI.kept hI.world
def syD (i:Nat):Option Nat:=match i with|0=>some 7|1=>some 8|2=>some 9|3=>some 10|_=>none
theorem syD_inj:∀ i,i<5→∀ j,j<5→syD i=syD j→syD i≠none→i=j:=by decide
theorem syD_lt:∀ i,i<5→∀ d,syD i=some d→d<21:=by
 intro i hi d h
 have:∀ i,i<5→(syD i).all (fun d=>decide (d<21))=true:=by decide
 have:=this i hi
 rw[h] at this
 simpa using this
def syF (M:Md)(E L N O:SL)(c:Int)(j:Nat)(q:Value):Prop:=match j with
 | 0=>q=.agg #[.int .i64 M.d,.int .i64 M.h,.int .i64 M.l,.int .i64 M.v,.int .i64 M.u,.int .i64 M.x,.int .i64 M.t,.int .i64 M.n,.slice E.a E.n E.c,.slice L.a L.n L.c,.slice N.a N.n N.c,.slice O.a O.n O.c]
 | 1=>q=.agg #[.int .i64 M.d,.int .i64 M.h,.int .i64 M.l,.int .i64 M.v,.int .i64 M.u,.int .i64 M.x,.int .i64 M.t,.int .i64 M.n,.slice E.a E.n E.c,.slice L.a L.n L.c,.slice N.a N.n N.c,.slice O.a O.n O.c]
 | 2=>q=.int .i64 c
 | 3=>q=.agg #[.int .i64 M.d,.int .i64 M.h,.int .i64 M.l,.int .i64 M.v,.int .i64 M.u,.int .i64 M.x,.int .i64 M.t,.int .i64 M.n,.slice E.a E.n E.c,.slice L.a L.n L.c,.slice N.a N.n N.c,.slice O.a O.n O.c]
 | _=>True
theorem sy_region {id:Nat}{ops:Array Oper}{Q:Exit→Act→World→Prop}{a0:Act}{w0:World}(M:Md)(E L N O:SL)(c:Int)(B:Nat)(hB:Blk 27 w0 B #[.int .i64 M.d,.int .i64 M.h,.int .i64 M.l,.int .i64 M.v,.int .i64 M.u,.int .i64 M.x,.int .i64 M.t,.int .i64 M.n,.slice E.a E.n E.c,.slice L.a L.n L.c,.slice N.a N.n N.c,.slice O.a O.n O.c])
  (hlow:lowB ops=true) (hsz:ops.size=5)
  (o0:OpIn ops 0 (some 7) (.load 27 (.tmp 2)) none []) (o1:OpIn ops 1 (some 8) (.load 27 (.tmp 2)) none []) (o2:OpIn ops 2 (some 9) (.call { callee:=.value (.func 47),args:=#[.tmp 8],argTypes:=#[27] }) none [1]) (o3:OpIn ops 3 (some 10) (.call { callee:=.value (.func 46),args:=#[.tmp 7,.tmp 9],argTypes:=#[27,35] }) none [0,2]) (o4:OpIn ops 4 none (.store 27 (.tmp 2) (.tmp 10)) none [3])
  (ub:a0.tmps.getD 2 undef=.pointer (some ⟨B,0,none⟩))
  (x2:∀ w,Below w0.heap.size w0 w→Calls Tryz.prog 47 #[.agg #[.int .i64 M.d,.int .i64 M.h,.int .i64 M.l,.int .i64 M.v,.int .i64 M.u,.int .i64 M.x,.int .i64 M.t,.int .i64 M.n,.slice E.a E.n E.c,.slice L.a L.n L.c,.slice N.a N.n N.c,.slice O.a O.n O.c]] w fun e w'=>e=.returned (.int .i64 c)∧Below w.heap.size w w')
  (x3:∀ w,Calls Tryz.prog 46 #[.agg #[.int .i64 M.d,.int .i64 M.h,.int .i64 M.l,.int .i64 M.v,.int .i64 M.u,.int .i64 M.x,.int .i64 M.t,.int .i64 M.n,.slice E.a E.n E.c,.slice L.a L.n L.c,.slice N.a N.n N.c,.slice O.a O.n O.c],.int .i64 c] w fun e w'=>e=.returned (.agg #[.int .i64 M.d,.int .i64 M.h,.int .i64 M.l,.int .i64 M.v,.int .i64 M.u,.int .i64 M.x,.int .i64 M.t,.int .i64 M.n,.slice E.a E.n E.c,.slice L.a L.n L.c,.slice N.a N.n N.c,.slice O.a O.n O.c])∧Below w.heap.size w w')
  (hs:21≤a0.tmps.size)
  (fin:∀ a w,a.tmps.size=a0.tmps.size→a.defers=a0.defers→(∀ s,(∀ i,i<5→syD i≠some s)→a.tmps.getD s undef=a0.tmps.getD s undef)→Below w0.heap.size w0 w→Q .normal a w):(Code.region id ops true).wp Tryz.prog Q a0 w0:=by
 have r47:∀ args w,(callFunc 47 args).run Tryz.prog w=.ok (.enter 47 args) w:=eNo Tryz.func47 (by kernel_rfl) rfl
 have r46:∀ args w,(callFunc 46 args).run Tryz.prog w=.ok (.enter 46 args) w:=eNo Tryz.func46 (by kernel_rfl) rfl
 refine wp_region_inv2 (by kernel_rfl) hlow (Inv 5 syD a0 (fun _ _ w=>Below w0.heap.size w0 w) (fun _ j q _=>syF M E L N O c j q)) (Inv.start (Below.refl _ _).drew) ?_ ?_
 ·intro k i o a w ho hl hcl hdep hI
  have hi:i<5:=by rw[←hsz];exact (Array.getElem?_eq_some_iff.1 ho).1
  have ev:∀ (s:Nat),a.eval (.tmp s)=a.tmps.getD s undef:=fun _=>rfl
  have evf:∀ f,a.eval (.func f)=.func (.func f) #[] #[]:=fun _=>rfl
  have inj:∀ d,syD i=some d→∀ j d',j<5→syD j=some d'→j≠i→d'≠d:=fun d hd j d' hj hd' hne e=>hne (syD_inj j hj i hi (by rw[hd',hd,e]) (by rw[hd'];simp))
  have kp:∀ s,(∀ i,i<5→syD i≠some s)→a.tmps.getD s undef=a0.tmps.getD s undef:=hI.kept
  have hw:Below w0.heap.size w0 w:=hI.world
  have U:a.tmps.getD 2 undef=.pointer (some ⟨B,0,none⟩):=(kp 2 (by decide)).trans ub
  have go:∀ {d:Nat}{v:Value}{w':World},syD i=some d→Below w.heap.size w w'→syF M E L N O c i v→Inv 5 syD a0 (fun _ _ w=>Below w0.heap.size w0 w) (fun _ j q _=>syF M E L N O c j q) (fun j=>k j || j==i) (a.put (some d) v) w':=by
   intro d v w' hD hb hF
   exact hI.put hi hD (Nat.lt_of_lt_of_le (syD_lt i hi d hD) hs) (inj d hD) (bTn hw hb) hF (fun j u _ _ _ hf=>hf)
  rcases (show i=0∨i=1∨i=2∨i=3∨i=4 by omega) with rfl|rfl|rfl|rfl|rfl
  ·obtain⟨o',e1,e2,e3,e4,e5⟩:=o0
   obtain rfl:=sOp ho e1
   have dp:=dPo e5 hdep
   exact wVa (v:=.agg #[.int .i64 M.d,.int .i64 M.h,.int .i64 M.l,.int .i64 M.v,.int .i64 M.u,.int .i64 M.x,.int .i64 M.t,.int .i64 M.n,.slice E.a E.n E.c,.slice L.a L.n L.c,.slice N.a N.n N.c,.slice O.a O.n O.c]) (w':=w) ho e4 (by simp[execOp,e3,ev,U,run_load27 (hB.kept hw)]) (by rw[e2];exact go rfl (Below.refl _ _) rfl)
  ·obtain⟨o',e1,e2,e3,e4,e5⟩:=o1
   obtain rfl:=sOp ho e1
   have dp:=dPo e5 hdep
   exact wVa (v:=.agg #[.int .i64 M.d,.int .i64 M.h,.int .i64 M.l,.int .i64 M.v,.int .i64 M.u,.int .i64 M.x,.int .i64 M.t,.int .i64 M.n,.slice E.a E.n E.c,.slice L.a L.n L.c,.slice N.a N.n N.c,.slice O.a O.n O.c]) (w':=w) ho e4 (by simp[execOp,e3,ev,U,run_load27 (hB.kept hw)]) (by rw[e2];exact go rfl (Below.refl _ _) rfl)
  ·obtain⟨o',e1,e2,e3,e4,e5⟩:=o2
   obtain rfl:=sOp ho e1
   have dp:=dPo e5 hdep
   have V1:a.tmps.getD 8 undef=.agg #[.int .i64 M.d,.int .i64 M.h,.int .i64 M.l,.int .i64 M.v,.int .i64 M.u,.int .i64 M.x,.int .i64 M.t,.int .i64 M.n,.slice E.a E.n E.c,.slice L.a L.n L.c,.slice N.a N.n N.c,.slice O.a O.n O.c]:=hI.val 1 8 (by decide) rfl (dp 1 (by decide))
   refine wCa (f:=47) (args:=#[.agg #[.int .i64 M.d,.int .i64 M.h,.int .i64 M.l,.int .i64 M.v,.int .i64 M.u,.int .i64 M.x,.int .i64 M.t,.int .i64 M.n,.slice E.a E.n E.c,.slice L.a L.n L.c,.slice N.a N.n N.c,.slice O.a O.n O.c]]) ho e4 (by simp[execOp,e3,resolve,invoke,Deferred.ofValue,r47,ev,evf,V1]) ((x2 w hw).mono ?_)
   rintro e W' ⟨rfl,hb⟩
   refine⟨_,rfl,?_⟩
   rw[e2]
   exact go rfl hb rfl
  ·obtain⟨o',e1,e2,e3,e4,e5⟩:=o3
   obtain rfl:=sOp ho e1
   have dp:=dPo e5 hdep
   have V0:a.tmps.getD 7 undef=.agg #[.int .i64 M.d,.int .i64 M.h,.int .i64 M.l,.int .i64 M.v,.int .i64 M.u,.int .i64 M.x,.int .i64 M.t,.int .i64 M.n,.slice E.a E.n E.c,.slice L.a L.n L.c,.slice N.a N.n N.c,.slice O.a O.n O.c]:=hI.val 0 7 (by decide) rfl (dp 0 (by decide))
   have V2:a.tmps.getD 9 undef=.int .i64 c:=hI.val 2 9 (by decide) rfl (dp 2 (by decide))
   refine wCa (f:=46) (args:=#[.agg #[.int .i64 M.d,.int .i64 M.h,.int .i64 M.l,.int .i64 M.v,.int .i64 M.u,.int .i64 M.x,.int .i64 M.t,.int .i64 M.n,.slice E.a E.n E.c,.slice L.a L.n L.c,.slice N.a N.n N.c,.slice O.a O.n O.c],.int .i64 c]) ho e4 (by simp[execOp,e3,resolve,invoke,Deferred.ofValue,r46,ev,evf,V0,V2]) ((x3 w).mono ?_)
   rintro e W' ⟨rfl,hb⟩
   refine⟨_,rfl,?_⟩
   rw[e2]
   exact go rfl hb rfl
  ·obtain⟨o',e1,e2,e3,e4,e5⟩:=o4
   obtain rfl:=sOp ho e1
   have dp:=dPo e5 hdep
   have V3:a.tmps.getD 10 undef=.agg #[.int .i64 M.d,.int .i64 M.h,.int .i64 M.l,.int .i64 M.v,.int .i64 M.u,.int .i64 M.x,.int .i64 M.t,.int .i64 M.n,.slice E.a E.n E.c,.slice L.a L.n L.c,.slice N.a N.n N.c,.slice O.a O.n O.c]:=hI.val 3 10 (by decide) rfl (dp 3 (by decide))
   refine wSk (w':=w) ho e4 (by simp[execOp,e3,ev,U,V3,store_same27 (hB.kept hw)]) ?_
   rw[e2]
   exact hI.none_ rfl hw (fun j u _ _ _ hf=>hf)
 ·intro k a w hall hI
  have all:∀ j,j<5→k j=true:=fun j hj=>hall j (by rw[hsz];exact hj)
  exact fin a w hI.size hI.defers hI.kept hI.world
end
section
def c3D (i:Nat):Option Nat:=match i with|0=>some 13|1=>some 14|_=>none
theorem c3D_inj:∀ i,i<4→∀ j,j<4→c3D i=c3D j→c3D i≠none→i=j:=by decide
theorem c3D_lt:∀ i,i<4→∀ d,c3D i=some d→d<22:=by
 intro i hi d h
 have:∀ i,i<4→(c3D i).all (fun d=>decide (d<22))=true:=by decide
 have:=this i hi
 rw[h] at this
 simpa using this
def c3F (M:Md)(E L N O La:SL)(b1 b2 b3 b4:Nat)(c:Int)(j:Nat)(q:Value):Prop:=match j with
 | 0=>q=.agg #[.int .i64 M.d,.int .i64 M.h,.int .i64 M.l,.int .i64 M.v,.int .i64 M.u,.int .i64 M.x,.int .i64 M.t,.int .i64 M.n,.slice E.a E.n E.c,.slice L.a L.n L.c,.slice N.a N.n N.c,.slice O.a O.n O.c]
 | 1=>q=.agg #[.int .i64 M.r,.int .i64 M.s,.slice La.a La.n La.c]
 | _=>True
def c3S (M:Md)(E L N O La:SL)(b1 b2 b3 b4 B:Nat)(w00:World)(l:Nat→Bool)(w:World):Prop:=Below B w00 w∧B≤w.heap.size∧Blk 27 w b1 #[.int .i64 M.d,.int .i64 M.h,.int .i64 M.l,.int .i64 M.v,.int .i64 M.u,.int .i64 M.x,.int .i64 M.t,.int .i64 M.n,.slice E.a E.n E.c,.slice L.a L.n L.c,.slice N.a N.n N.c,.slice O.a O.n O.c]∧Blk 30 w b2 #[.int .i64 M.r,.int .i64 M.s,.slice La.a La.n La.c]∧Blk 27 w b3 (cond (l 2) #[.int .i64 M.d,.int .i64 M.h,.int .i64 M.l,.int .i64 M.v,.int .i64 M.u,.int .i64 M.x,.int .i64 M.t,.int .i64 M.n,.slice E.a E.n E.c,.slice L.a L.n L.c,.slice N.a N.n N.c,.slice O.a O.n O.c] #[.int .i64 0,.int .i64 0,.int .i64 0,.int .i64 0,.int .i64 0,.int .i64 0,.int .i64 0,.int .i64 0,.slice none 0 0,.slice none 0 0,.slice none 0 0,.slice none 0 0])∧Blk 30 w b4 (cond (l 3) #[.int .i64 M.r,.int .i64 M.s,.slice La.a La.n La.c] #[.int .i64 0,.int .i64 0,.slice none 0 0])
theorem c3_region {id:Nat}{ops:Array Oper}{Q:Exit→Act→World→Prop}{a0:Act}{w0:World}(M:Md)(E L N O La:SL)(b1 b2 b3 b4:Nat)(c:Int)(B:Nat)(w00:World)(hB1:B≤b3)(hB2:B≤b4)(n13:b1≠b3)
  (hlow:lowB ops=true) (hsz:ops.size=4)
  (o0:OpIn ops 0 (some 13) (.load 27 (.tmp 2)) none []) (o1:OpIn ops 1 (some 14) (.load 30 (.tmp 3)) none []) (o2:OpIn ops 2 none (.store 27 (.tmp 4) (.tmp 13)) none [0]) (o3:OpIn ops 3 none (.store 30 (.tmp 5) (.tmp 14)) none [1])
  (u2:a0.tmps.getD 2 undef=.pointer (some ⟨b1,0,none⟩)) (u3:a0.tmps.getD 3 undef=.pointer (some ⟨b2,0,none⟩)) (u4:a0.tmps.getD 4 undef=.pointer (some ⟨b3,0,none⟩)) (u5:a0.tmps.getD 5 undef=.pointer (some ⟨b4,0,none⟩)) (n24:b2≠b4)
  (hS:c3S M E L N O La b1 b2 b3 b4 B w00 (fun _=>false) w0.drew)
  (hs:22≤a0.tmps.size)
  (fin:∀ a w,a.tmps.size=a0.tmps.size→a.defers=a0.defers→(∀ s,(∀ i,i<4→c3D i≠some s)→a.tmps.getD s undef=a0.tmps.getD s undef)→Below B w00 w→Blk 27 w b3 #[.int .i64 M.d,.int .i64 M.h,.int .i64 M.l,.int .i64 M.v,.int .i64 M.u,.int .i64 M.x,.int .i64 M.t,.int .i64 M.n,.slice E.a E.n E.c,.slice L.a L.n L.c,.slice N.a N.n N.c,.slice O.a O.n O.c]→Blk 30 w b4 #[.int .i64 M.r,.int .i64 M.s,.slice La.a La.n La.c]→Q .normal a w):(Code.region id ops true).wp Tryz.prog Q a0 w0:=by
 have r55:∀ args w,(callFunc 55 args).run Tryz.prog w=.ok (.enter 55 args) w:=eNo Tryz.func55 (by kernel_rfl) rfl
 have r54:∀ args w,(callFunc 54 args).run Tryz.prog w=.ok (.enter 54 args) w:=eNo Tryz.func54 (by kernel_rfl) rfl
 refine wp_region_inv2 (by kernel_rfl) hlow (Inv 4 c3D a0 (fun l _ w=>c3S M E L N O La b1 b2 b3 b4 B w00 l w) (fun _ j q _=>c3F M E L N O La b1 b2 b3 b4 c j q)) (Inv.start hS) ?_ ?_
 ·intro l i o a w ho hl hcl hdep hI
  have hi:i<4:=by rw[←hsz];exact (Array.getElem?_eq_some_iff.1 ho).1
  have ev:∀ (s:Nat),a.eval (.tmp s)=a.tmps.getD s undef:=fun _=>rfl
  have evf:∀ f,a.eval (.func f)=.func (.func f) #[] #[]:=fun _=>rfl
  have inj:∀ d,c3D i=some d→∀ j d',j<4→c3D j=some d'→j≠i→d'≠d:=fun d hd j d' hj hd' hne e=>hne (c3D_inj j hj i hi (by rw[hd',hd,e]) (by rw[hd'];simp))
  have kp:∀ s,(∀ i,i<4→c3D i≠some s)→a.tmps.getD s undef=a0.tmps.getD s undef:=hI.kept
  obtain⟨hw,hsz',k1,k2,k3,k4⟩:=hI.world
  have oth:∀ j,j≠i→(l j || j==i)=l j:=fun j hj=>by rw[show (j==i)=false by simp[hj],Bool.or_false]
  have sam:(l i || i==i)=true:=by simp
  have U2:a.tmps.getD 2 undef=.pointer (some ⟨b1,0,none⟩):=(kp 2 (by decide)).trans u2
  have U3:a.tmps.getD 3 undef=.pointer (some ⟨b2,0,none⟩):=(kp 3 (by decide)).trans u3
  have U4:a.tmps.getD 4 undef=.pointer (some ⟨b3,0,none⟩):=(kp 4 (by decide)).trans u4
  have U5:a.tmps.getD 5 undef=.pointer (some ⟨b4,0,none⟩):=(kp 5 (by decide)).trans u5
  have go:∀ {d:Nat}{v:Value}{w':World},c3D i=some d→i≠2∧i≠3→Below w.heap.size w w'→c3F M E L N O La b1 b2 b3 b4 c i v→Inv 4 c3D a0 (fun l _ w=>c3S M E L N O La b1 b2 b3 b4 B w00 l w) (fun _ j q _=>c3F M E L N O La b1 b2 b3 b4 c j q) (fun j=>l j || j==i) (a.put (some d) v) w':=by
   intro d v w' hD hne hb hF
   refine hI.put hi hD (Nat.lt_of_lt_of_le (c3D_lt i hi d hD) hs) (inj d hD) ⟨hw.trans (hb.mono hsz'),Nat.le_trans hsz' hb.size,k1.kept hb,k2.kept hb,?_,?_⟩ hF (fun j u _ _ _ hf=>hf)
   ·dsimp only
    rw[oth 2 (fun e=>hne.1 e.symm)]
    exact k3.kept hb
   ·dsimp only
    rw[oth 3 (fun e=>hne.2 e.symm)]
    exact k4.kept hb
  rcases (show i=0∨i=1∨i=2∨i=3 by omega) with rfl|rfl|rfl|rfl
  ·obtain⟨o',e1,e2,e3,e4,e5⟩:=o0
   obtain rfl:=sOp ho e1
   have dp:=dPo e5 hdep
   exact wVa (v:=.agg #[.int .i64 M.d,.int .i64 M.h,.int .i64 M.l,.int .i64 M.v,.int .i64 M.u,.int .i64 M.x,.int .i64 M.t,.int .i64 M.n,.slice E.a E.n E.c,.slice L.a L.n L.c,.slice N.a N.n N.c,.slice O.a O.n O.c]) (w':=w) ho e4 (by simp[execOp,e3,ev,U2,run_load27 k1]) (by rw[e2];exact go rfl (by decide) (Below.refl _ _) rfl)
  ·obtain⟨o',e1,e2,e3,e4,e5⟩:=o1
   obtain rfl:=sOp ho e1
   have dp:=dPo e5 hdep
   exact wVa (v:=.agg #[.int .i64 M.r,.int .i64 M.s,.slice La.a La.n La.c]) (w':=w) ho e4 (by simp[execOp,e3,ev,U3,rL3 k2]) (by rw[e2];exact go rfl (by decide) (Below.refl _ _) rfl)
  ·obtain⟨o',e1,e2,e3,e4,e5⟩:=o2
   obtain rfl:=sOp ho e1
   have dp:=dPo e5 hdep
   have V0:a.tmps.getD 13 undef=.agg #[.int .i64 M.d,.int .i64 M.h,.int .i64 M.l,.int .i64 M.v,.int .i64 M.u,.int .i64 M.x,.int .i64 M.t,.int .i64 M.n,.slice E.a E.n E.c,.slice L.a L.n L.c,.slice N.a N.n N.c,.slice O.a O.n O.c]:=hI.val 0 13 (by decide) rfl (dp 0 (by decide))
   rw[hl] at k3
   obtain⟨w',r',q',on⟩:=run_store27s k3 M.d M.h M.l M.v M.u M.x M.t M.n E L N O
   refine wSk (w':=w') ho e4 (by simp[execOp,e3,ev,U4,V0,r']) ?_
   rw[e2]
   refine hI.none_ rfl ⟨Only.below hw hB1 hsz' on,Nat.le_trans hsz' on.size,k1.only on n13,k2.only on (k2.apart k3 (by decide)),?_,?_⟩ (fun j u _ _ _ hf=>hf)
   ·dsimp only
    rw[sam]
    exact q'
   ·dsimp only
    rw[oth 3 (by decide)]
    exact k4.only on (k4.apart k3 (by decide))
  ·obtain⟨o',e1,e2,e3,e4,e5⟩:=o3
   obtain rfl:=sOp ho e1
   have dp:=dPo e5 hdep
   have V1:a.tmps.getD 14 undef=.agg #[.int .i64 M.r,.int .i64 M.s,.slice La.a La.n La.c]:=hI.val 1 14 (by decide) rfl (dp 1 (by decide))
   rw[hl] at k4
   obtain⟨w',r',q',on⟩:=run_store30s k4 M.r M.s La
   refine wSk (w':=w') ho e4 (by simp[execOp,e3,ev,U5,V1,r']) ?_
   rw[e2]
   refine hI.none_ rfl ⟨Only.below hw hB2 hsz' on,Nat.le_trans hsz' on.size,k1.only on (k1.apart k4 (by decide)),k2.only on n24,?_,?_⟩ (fun j u _ _ _ hf=>hf)
   ·dsimp only
    rw[oth 2 (by decide)]
    exact k3.only on (k3.apart k4 (by decide))
   ·dsimp only
    rw[sam]
    exact q'
 ·intro l a w hall hI
  have all:∀ j,j<4→l j=true:=fun j hj=>hall j (by rw[hsz];exact hj)
  obtain⟨hw,-,-,-,k3,k4⟩:=hI.world
  rw[all 2 (by decide)] at k3
  rw[all 3 (by decide)] at k4
  exact fin a w hI.size hI.defers hI.kept hw k3 k4
def c4D (i:Nat):Option Nat:=match i with|0=>some 15|1=>some 16|2=>some 17|3=>some 18|4=>some 19|5=>some 20|6=>some 21|_=>none
theorem c4D_inj:∀ i,i<9→∀ j,j<9→c4D i=c4D j→c4D i≠none→i=j:=by decide
theorem c4D_lt:∀ i,i<9→∀ d,c4D i=some d→d<22:=by
 intro i hi d h
 have:∀ i,i<9→(c4D i).all (fun d=>decide (d<22))=true:=by decide
 have:=this i hi
 rw[h] at this
 simpa using this
def c4F (M:Md)(E L N O La:SL)(b1 b2 b3 b4:Nat)(c:Int)(j:Nat)(q:Value):Prop:=match j with
 | 0=>q=.agg #[.int .i64 M.d,.int .i64 M.h,.int .i64 M.l,.int .i64 M.v,.int .i64 M.u,.int .i64 M.x,.int .i64 M.t,.int .i64 M.n,.slice E.a E.n E.c,.slice L.a L.n L.c,.slice N.a N.n N.c,.slice O.a O.n O.c]
 | 1=>q=.agg #[.int .i64 M.r,.int .i64 M.s,.slice La.a La.n La.c]
 | 2=>q=.agg #[.int .i64 M.r,.int .i64 M.s,.slice La.a La.n La.c]
 | 3=>q=.pointer (some ⟨b1,0,none⟩)
 | 4=>q=.agg #[.int .i64 M.d,.int .i64 M.h,.int .i64 M.l,.int .i64 M.v,.int .i64 M.u,.int .i64 M.x,.int .i64 M.t,.int .i64 M.n]
 | 5=>q=.int .i64 c
 | 6=>q=.agg #[.int .i64 M.r,.int .i64 M.s,.slice La.a La.n La.c]
 | _=>True
def c4S (M:Md)(E L N O La:SL)(b1 b2 b3 b4 B:Nat)(w00:World)(l:Nat→Bool)(w:World):Prop:=Below B w00 w∧B≤w.heap.size∧Blk 27 w b1 #[.int .i64 M.d,.int .i64 M.h,.int .i64 M.l,.int .i64 M.v,.int .i64 M.u,.int .i64 M.x,.int .i64 M.t,.int .i64 M.n,.slice E.a E.n E.c,.slice L.a L.n L.c,.slice N.a N.n N.c,.slice O.a O.n O.c]∧Blk 30 w b2 #[.int .i64 M.r,.int .i64 M.s,.slice La.a La.n La.c]∧Blk 27 w b3 (cond (l 7) #[.int .i64 M.d,.int .i64 M.h,.int .i64 M.l,.int .i64 M.v,.int .i64 M.u,.int .i64 M.x,.int .i64 M.t,.int .i64 M.n,.slice E.a E.n E.c,.slice L.a L.n L.c,.slice N.a N.n N.c,.slice O.a O.n O.c] #[.int .i64 0,.int .i64 0,.int .i64 0,.int .i64 0,.int .i64 0,.int .i64 0,.int .i64 0,.int .i64 0,.slice none 0 0,.slice none 0 0,.slice none 0 0,.slice none 0 0])∧Blk 30 w b4 (cond (l 8) #[.int .i64 M.r,.int .i64 M.s,.slice La.a La.n La.c] #[.int .i64 0,.int .i64 0,.slice none 0 0])
theorem c4_region {id:Nat}{ops:Array Oper}{Q:Exit→Act→World→Prop}{a0:Act}{w0:World}(M:Md)(E L N O La:SL)(b1 b2 b3 b4:Nat)(c:Int)(B:Nat)(w00:World)(hB1:B≤b3)(hB2:B≤b4)(n13:b1≠b3)
  (hlow:lowB ops=true) (hsz:ops.size=9)
  (o0:OpIn ops 0 (some 15) (.load 27 (.tmp 2)) none []) (o1:OpIn ops 1 (some 16) (.load 30 (.tmp 3)) none []) (o2:OpIn ops 2 (some 17) (.load 30 (.tmp 3)) none []) (o3:OpIn ops 3 (some 18) (.fieldAddr 27 (.tmp 2) 0) none []) (o4:OpIn ops 4 (some 19) (.load 23 (.tmp 18)) none [3]) (o5:OpIn ops 5 (some 20) (.call { callee:=.value (.func 55),args:=#[.tmp 17,.tmp 19],argTypes:=#[30,23] }) none [2,4]) (o6:OpIn ops 6 (some 21) (.call { callee:=.value (.func 54),args:=#[.tmp 16,.tmp 20],argTypes:=#[30,35] }) none [1,5]) (o7:OpIn ops 7 none (.store 27 (.tmp 4) (.tmp 15)) none [0]) (o8:OpIn ops 8 none (.store 30 (.tmp 5) (.tmp 21)) none [6])
  (u2:a0.tmps.getD 2 undef=.pointer (some ⟨b1,0,none⟩)) (u3:a0.tmps.getD 3 undef=.pointer (some ⟨b2,0,none⟩)) (u4:a0.tmps.getD 4 undef=.pointer (some ⟨b3,0,none⟩)) (u5:a0.tmps.getD 5 undef=.pointer (some ⟨b4,0,none⟩)) (n24:b2≠b4)
  (hS:c4S M E L N O La b1 b2 b3 b4 B w00 (fun _=>false) w0.drew)
  (x5:∀ w,Below B w00 w→Calls Tryz.prog 55 #[.agg #[.int .i64 M.r,.int .i64 M.s,.slice La.a La.n La.c],.agg #[.int .i64 M.d,.int .i64 M.h,.int .i64 M.l,.int .i64 M.v,.int .i64 M.u,.int .i64 M.x,.int .i64 M.t,.int .i64 M.n]] w fun e w'=>e=.returned (.int .i64 c)∧Below w.heap.size w w')
  (x6:∀ w,Calls Tryz.prog 54 #[.agg #[.int .i64 M.r,.int .i64 M.s,.slice La.a La.n La.c],.int .i64 c] w fun e w'=>e=.returned (.agg #[.int .i64 M.r,.int .i64 M.s,.slice La.a La.n La.c])∧Below w.heap.size w w')
  (hs:22≤a0.tmps.size)
  (fin:∀ a w,a.tmps.size=a0.tmps.size→a.defers=a0.defers→(∀ s,(∀ i,i<9→c4D i≠some s)→a.tmps.getD s undef=a0.tmps.getD s undef)→Below B w00 w→Blk 27 w b3 #[.int .i64 M.d,.int .i64 M.h,.int .i64 M.l,.int .i64 M.v,.int .i64 M.u,.int .i64 M.x,.int .i64 M.t,.int .i64 M.n,.slice E.a E.n E.c,.slice L.a L.n L.c,.slice N.a N.n N.c,.slice O.a O.n O.c]→Blk 30 w b4 #[.int .i64 M.r,.int .i64 M.s,.slice La.a La.n La.c]→Q .normal a w):(Code.region id ops true).wp Tryz.prog Q a0 w0:=by
 have r55:∀ args w,(callFunc 55 args).run Tryz.prog w=.ok (.enter 55 args) w:=eNo Tryz.func55 (by kernel_rfl) rfl
 have r54:∀ args w,(callFunc 54 args).run Tryz.prog w=.ok (.enter 54 args) w:=eNo Tryz.func54 (by kernel_rfl) rfl
 refine wp_region_inv2 (by kernel_rfl) hlow (Inv 9 c4D a0 (fun l _ w=>c4S M E L N O La b1 b2 b3 b4 B w00 l w) (fun _ j q _=>c4F M E L N O La b1 b2 b3 b4 c j q)) (Inv.start hS) ?_ ?_
 ·intro l i o a w ho hl hcl hdep hI
  have hi:i<9:=by rw[←hsz];exact (Array.getElem?_eq_some_iff.1 ho).1
  have ev:∀ (s:Nat),a.eval (.tmp s)=a.tmps.getD s undef:=fun _=>rfl
  have evf:∀ f,a.eval (.func f)=.func (.func f) #[] #[]:=fun _=>rfl
  have inj:∀ d,c4D i=some d→∀ j d',j<9→c4D j=some d'→j≠i→d'≠d:=fun d hd j d' hj hd' hne e=>hne (c4D_inj j hj i hi (by rw[hd',hd,e]) (by rw[hd'];simp))
  have kp:∀ s,(∀ i,i<9→c4D i≠some s)→a.tmps.getD s undef=a0.tmps.getD s undef:=hI.kept
  obtain⟨hw,hsz',k1,k2,k3,k4⟩:=hI.world
  have oth:∀ j,j≠i→(l j || j==i)=l j:=fun j hj=>by rw[show (j==i)=false by simp[hj],Bool.or_false]
  have sam:(l i || i==i)=true:=by simp
  have U2:a.tmps.getD 2 undef=.pointer (some ⟨b1,0,none⟩):=(kp 2 (by decide)).trans u2
  have U3:a.tmps.getD 3 undef=.pointer (some ⟨b2,0,none⟩):=(kp 3 (by decide)).trans u3
  have U4:a.tmps.getD 4 undef=.pointer (some ⟨b3,0,none⟩):=(kp 4 (by decide)).trans u4
  have U5:a.tmps.getD 5 undef=.pointer (some ⟨b4,0,none⟩):=(kp 5 (by decide)).trans u5
  have go:∀ {d:Nat}{v:Value}{w':World},c4D i=some d→i≠7∧i≠8→Below w.heap.size w w'→c4F M E L N O La b1 b2 b3 b4 c i v→Inv 9 c4D a0 (fun l _ w=>c4S M E L N O La b1 b2 b3 b4 B w00 l w) (fun _ j q _=>c4F M E L N O La b1 b2 b3 b4 c j q) (fun j=>l j || j==i) (a.put (some d) v) w':=by
   intro d v w' hD hne hb hF
   refine hI.put hi hD (Nat.lt_of_lt_of_le (c4D_lt i hi d hD) hs) (inj d hD) ⟨hw.trans (hb.mono hsz'),Nat.le_trans hsz' hb.size,k1.kept hb,k2.kept hb,?_,?_⟩ hF (fun j u _ _ _ hf=>hf)
   ·dsimp only
    rw[oth 7 (fun e=>hne.1 e.symm)]
    exact k3.kept hb
   ·dsimp only
    rw[oth 8 (fun e=>hne.2 e.symm)]
    exact k4.kept hb
  rcases (show i=0∨i=1∨i=2∨i=3∨i=4∨i=5∨i=6∨i=7∨i=8 by omega) with rfl|rfl|rfl|rfl|rfl|rfl|rfl|rfl|rfl
  ·obtain⟨o',e1,e2,e3,e4,e5⟩:=o0
   obtain rfl:=sOp ho e1
   have dp:=dPo e5 hdep
   exact wVa (v:=.agg #[.int .i64 M.d,.int .i64 M.h,.int .i64 M.l,.int .i64 M.v,.int .i64 M.u,.int .i64 M.x,.int .i64 M.t,.int .i64 M.n,.slice E.a E.n E.c,.slice L.a L.n L.c,.slice N.a N.n N.c,.slice O.a O.n O.c]) (w':=w) ho e4 (by simp[execOp,e3,ev,U2,run_load27 k1]) (by rw[e2];exact go rfl (by decide) (Below.refl _ _) rfl)
  ·obtain⟨o',e1,e2,e3,e4,e5⟩:=o1
   obtain rfl:=sOp ho e1
   have dp:=dPo e5 hdep
   exact wVa (v:=.agg #[.int .i64 M.r,.int .i64 M.s,.slice La.a La.n La.c]) (w':=w) ho e4 (by simp[execOp,e3,ev,U3,rL3 k2]) (by rw[e2];exact go rfl (by decide) (Below.refl _ _) rfl)
  ·obtain⟨o',e1,e2,e3,e4,e5⟩:=o2
   obtain rfl:=sOp ho e1
   have dp:=dPo e5 hdep
   exact wVa (v:=.agg #[.int .i64 M.r,.int .i64 M.s,.slice La.a La.n La.c]) (w':=w) ho e4 (by simp[execOp,e3,ev,U3,rL3 k2]) (by rw[e2];exact go rfl (by decide) (Below.refl _ _) rfl)
  ·obtain⟨o',e1,e2,e3,e4,e5⟩:=o3
   obtain rfl:=sOp ho e1
   have dp:=dPo e5 hdep
   exact wVa (v:=.pointer (some ⟨b1,0,none⟩)) (w':=w) ho e4 (by simp[execOp,e3,ev,U2,run_field27 b1 0 0 (by omega)]) (by rw[e2];exact go rfl (by decide) (Below.refl _ _) rfl)
  ·obtain⟨o',e1,e2,e3,e4,e5⟩:=o4
   obtain rfl:=sOp ho e1
   have dp:=dPo e5 hdep
   have V3:a.tmps.getD 18 undef=.pointer (some ⟨b1,0,none⟩):=hI.val 3 18 (by decide) rfl (dp 3 (by decide))
   exact wVa (v:=.agg #[.int .i64 M.d,.int .i64 M.h,.int .i64 M.l,.int .i64 M.v,.int .i64 M.u,.int .i64 M.x,.int .i64 M.t,.int .i64 M.n]) (w':=w) ho e4 (by simp[execOp,e3,ev,V3,run_cfg12 k1]) (by rw[e2];exact go rfl (by decide) (Below.refl _ _) rfl)
  ·obtain⟨o',e1,e2,e3,e4,e5⟩:=o5
   obtain rfl:=sOp ho e1
   have dp:=dPo e5 hdep
   have V2:a.tmps.getD 17 undef=.agg #[.int .i64 M.r,.int .i64 M.s,.slice La.a La.n La.c]:=hI.val 2 17 (by decide) rfl (dp 2 (by decide))
   have V4:a.tmps.getD 19 undef=.agg #[.int .i64 M.d,.int .i64 M.h,.int .i64 M.l,.int .i64 M.v,.int .i64 M.u,.int .i64 M.x,.int .i64 M.t,.int .i64 M.n]:=hI.val 4 19 (by decide) rfl (dp 4 (by decide))
   refine wCa (f:=55) (args:=#[.agg #[.int .i64 M.r,.int .i64 M.s,.slice La.a La.n La.c],.agg #[.int .i64 M.d,.int .i64 M.h,.int .i64 M.l,.int .i64 M.v,.int .i64 M.u,.int .i64 M.x,.int .i64 M.t,.int .i64 M.n]]) ho e4 (by simp[execOp,e3,resolve,invoke,Deferred.ofValue,r55,ev,evf,V2,V4]) ((x5 w hw).mono ?_)
   rintro e W' ⟨rfl,hb⟩
   refine⟨_,rfl,?_⟩
   rw[e2]
   exact go rfl (by decide) hb rfl
  ·obtain⟨o',e1,e2,e3,e4,e5⟩:=o6
   obtain rfl:=sOp ho e1
   have dp:=dPo e5 hdep
   have V1:a.tmps.getD 16 undef=.agg #[.int .i64 M.r,.int .i64 M.s,.slice La.a La.n La.c]:=hI.val 1 16 (by decide) rfl (dp 1 (by decide))
   have V5:a.tmps.getD 20 undef=.int .i64 c:=hI.val 5 20 (by decide) rfl (dp 5 (by decide))
   refine wCa (f:=54) (args:=#[.agg #[.int .i64 M.r,.int .i64 M.s,.slice La.a La.n La.c],.int .i64 c]) ho e4 (by simp[execOp,e3,resolve,invoke,Deferred.ofValue,r54,ev,evf,V1,V5]) ((x6 w).mono ?_)
   rintro e W' ⟨rfl,hb⟩
   refine⟨_,rfl,?_⟩
   rw[e2]
   exact go rfl (by decide) hb rfl
  ·obtain⟨o',e1,e2,e3,e4,e5⟩:=o7
   obtain rfl:=sOp ho e1
   have dp:=dPo e5 hdep
   have V0:a.tmps.getD 15 undef=.agg #[.int .i64 M.d,.int .i64 M.h,.int .i64 M.l,.int .i64 M.v,.int .i64 M.u,.int .i64 M.x,.int .i64 M.t,.int .i64 M.n,.slice E.a E.n E.c,.slice L.a L.n L.c,.slice N.a N.n N.c,.slice O.a O.n O.c]:=hI.val 0 15 (by decide) rfl (dp 0 (by decide))
   rw[hl] at k3
   obtain⟨w',r',q',on⟩:=run_store27s k3 M.d M.h M.l M.v M.u M.x M.t M.n E L N O
   refine wSk (w':=w') ho e4 (by simp[execOp,e3,ev,U4,V0,r']) ?_
   rw[e2]
   refine hI.none_ rfl ⟨Only.below hw hB1 hsz' on,Nat.le_trans hsz' on.size,k1.only on n13,k2.only on (k2.apart k3 (by decide)),?_,?_⟩ (fun j u _ _ _ hf=>hf)
   ·dsimp only
    rw[sam]
    exact q'
   ·dsimp only
    rw[oth 8 (by decide)]
    exact k4.only on (k4.apart k3 (by decide))
  ·obtain⟨o',e1,e2,e3,e4,e5⟩:=o8
   obtain rfl:=sOp ho e1
   have dp:=dPo e5 hdep
   have V6:a.tmps.getD 21 undef=.agg #[.int .i64 M.r,.int .i64 M.s,.slice La.a La.n La.c]:=hI.val 6 21 (by decide) rfl (dp 6 (by decide))
   rw[hl] at k4
   obtain⟨w',r',q',on⟩:=run_store30s k4 M.r M.s La
   refine wSk (w':=w') ho e4 (by simp[execOp,e3,ev,U5,V6,r']) ?_
   rw[e2]
   refine hI.none_ rfl ⟨Only.below hw hB2 hsz' on,Nat.le_trans hsz' on.size,k1.only on (k1.apart k4 (by decide)),k2.only on n24,?_,?_⟩ (fun j u _ _ _ hf=>hf)
   ·dsimp only
    rw[oth 7 (by decide)]
    exact k3.only on (k3.apart k4 (by decide))
   ·dsimp only
    rw[sam]
    exact q'
 ·intro l a w hall hI
  have all:∀ j,j<9→l j=true:=fun j hj=>hall j (by rw[hsz];exact hj)
  obtain⟨hw,-,-,-,k3,k4⟩:=hI.world
  rw[all 7 (by decide)] at k3
  rw[all 8 (by decide)] at k4
  exact fin a w hI.size hI.defers hI.kept hw k3 k4
end
section
def sz6D (i:Nat):Option Nat:=match i with|0=>some 29|1=>some 30|2=>some 31|3=>some 32|4=>some 33|5=>some 34|6=>some 35|7=>some 36|8=>some 37|9=>some 38|10=>some 39|11=>some 28|12=>some 40|13=>some 41|14=>some 42|15=>some 5|16=>some 6|17=>some 7|_=>none
theorem sz6D_inj:∀ i,i<18→∀ j,j<18→sz6D i=sz6D j→sz6D i≠none→i=j:=by decide
theorem sz6D_lt:∀ i,i<18→∀ d,sz6D i=some d→d<120:=by
 intro i hi d h
 have:∀ i,i<18→(sz6D i).all (fun d=>decide (d<120))=true:=by decide
 have:=this i hi
 rw[h] at this
 simpa using this
def sz6F (M:Md)(E L N O:SL)(kb mb tn tc nn:Nat)(ta:Option Addr)(sd9 rk ee:Int)(RA RB:World→Option Addr→Nat→Prop)(i:Nat)(q:Value)(w:World):Prop:=match i with
 | 0=>q=.agg #[.int .i64 M.d,.int .i64 M.h,.int .i64 M.l,.int .i64 M.v,.int .i64 M.u,.int .i64 M.x,.int .i64 M.t,.int .i64 M.n,.slice E.a E.n E.c,.slice L.a L.n L.c,.slice N.a N.n N.c,.slice O.a O.n O.c]
 | 1=>q=.pointer (some ⟨kb,9,none⟩)
 | 2=>q=.int .i64 rk
 | 3=>q=.pointer (some ⟨kb,0,none⟩)
 | 4=>q=.agg #[.int .i64 M.d,.int .i64 M.h,.int .i64 M.l,.int .i64 M.v,.int .i64 M.u,.int .i64 M.x,.int .i64 M.t,.int .i64 M.n]
 | 5=>q=.pointer (some ⟨kb,8,none⟩)
 | 6=>q=.int .u64 sd9
 | 7=>∃ (La:SL) (Ya:Nat→Nat→SL),q=.agg #[.int .i64 M.r,.int .i64 M.s,.slice La.a La.n La.c]∧AdAt w La Ya M.a
 | 8=>q=.pointer (some ⟨kb,10,none⟩)
 | 9=>q=.slice ta tn tc
 | 10=>∃ ya yc yb yd,q=.tuple #[.slice ya nn yc,.slice yb nn yd,.int .i64 ee]∧RA w ya yc∧RB w yb yd
 | 11=>∃ ya yc yb yd,q=.tuple #[.slice ya nn yc,.slice yb nn yd,.int .i64 ee]∧RA w ya yc∧RB w yb yd
 | 12=>∃ ya yc,q=.slice ya nn yc∧RA w ya yc
 | 13=>∃ ya yc,q=.slice ya nn yc∧RB w ya yc
 | 14=>q=.int .i64 ee
 | 15=>∃ ya yc,q=.slice ya nn yc∧RA w ya yc
 | 16=>∃ ya yc,q=.slice ya nn yc∧RB w ya yc
 | 17=>q=.int .i64 ee
 | _=>True
theorem sz6F_below {M:Md}{E L N O:SL}{kb mb tn tc nn:Nat}{ta:Option Addr}{sd9 rk ee:Int}{RA RB:World→Option Addr→Nat→Prop}{i:Nat}{q:Value}{w w':World}(h:sz6F M E L N O kb mb tn tc nn ta sd9 rk ee RA RB i q w)(hb:Below w.heap.size w w')(hRA:∀ {w w':World}{a:Option Addr}{c:Nat},RA w a c→Below w.heap.size w w'→RA w' a c)(hRB:∀ {w w':World}{a:Option Addr}{c:Nat},RB w a c→Below w.heap.size w w'→RB w' a c):sz6F M E L N O kb mb tn tc nn ta sd9 rk ee RA RB i q w':=by
 unfold sz6F at h ⊢
 split
 ·exact h
 ·exact h
 ·exact h
 ·exact h
 ·exact h
 ·exact h
 ·exact h
 ·obtain⟨La,Ya,h1,h2⟩:=h;exact⟨La,Ya,h1,h2.below hb⟩
 ·exact h
 ·exact h
 ·obtain⟨ya,yc,yb,yd,h1,h2,h3⟩:=h;exact⟨ya,yc,yb,yd,h1,hRA h2 hb,hRB h3 hb⟩
 ·obtain⟨ya,yc,yb,yd,h1,h2,h3⟩:=h;exact⟨ya,yc,yb,yd,h1,hRA h2 hb,hRB h3 hb⟩
 ·obtain⟨ya,yc,h1,h2⟩:=h;exact⟨ya,yc,h1,hRA h2 hb⟩
 ·obtain⟨ya,yc,h1,h2⟩:=h;exact⟨ya,yc,h1,hRB h2 hb⟩
 ·exact h
 ·obtain⟨ya,yc,h1,h2⟩:=h;exact⟨ya,yc,h1,hRA h2 hb⟩
 ·obtain⟨ya,yc,h1,h2⟩:=h;exact⟨ya,yc,h1,hRB h2 hb⟩
 ·exact h
 ·trivial
theorem sz6_region {id:Nat}{ops:Array Oper}{Q:Exit→Act→World→Prop}{a0:Act}{w0:World}(M:Md)(E L N O:SL)(kb mb tn tc nn:Nat)(ta:Option Addr)(sd9 rk ee:Int)(RA RB:World→Option Addr→Nat→Prop)(S:World→Prop)(hRA:∀ {w w':World}{a:Option Addr}{c:Nat},RA w a c→Below w.heap.size w w'→RA w' a c)(hRB:∀ {w w':World}{a:Option Addr}{c:Nat},RB w a c→Below w.heap.size w w'→RB w' a c)(hlow:lowB ops=true)(hsz:ops.size=18)
  (o0:OpIn ops 0 (some 29) (.load 27 (.tmp 3)) none []) (o1:OpIn ops 1 (some 30) (.fieldAddr 47 (.tmp 1) 2) none []) (o2:OpIn ops 2 (some 31) (.load 3 (.tmp 30)) none [1]) (o3:OpIn ops 3 (some 32) (.fieldAddr 47 (.tmp 1) 0) none []) (o4:OpIn ops 4 (some 33) (.load 23 (.tmp 32)) none [3]) (o5:OpIn ops 5 (some 34) (.fieldAddr 47 (.tmp 1) 1) none []) (o6:OpIn ops 6 (some 35) (.load 44 (.tmp 34)) none [5]) (o7:OpIn ops 7 (some 36) (.call { callee:=.value (.func 20),args:=#[.tmp 31,.tmp 33,.tmp 35],argTypes:=#[3,23,44] }) none [2,4,6]) (o8:OpIn ops 8 (some 37) (.fieldAddr 47 (.tmp 1) 3) none []) (o9:OpIn ops 9 (some 38) (.load 45 (.tmp 37)) none [8]) (o10:OpIn ops 10 (some 39) (.call { callee:=.value (.func 21),args:=#[.tmp 29,.tmp 36,.tmp 38],argTypes:=#[27,30,45] }) none [0,7,9]) (o11:OpIn ops 11 (some 28) (.move (.tmp 39)) none [10]) (o12:OpIn ops 12 (some 40) (.extract (.tmp 28) 0) none [11]) (o13:OpIn ops 13 (some 41) (.extract (.tmp 28) 1) none [11]) (o14:OpIn ops 14 (some 42) (.extract (.tmp 28) 2) none [11]) (o15:OpIn ops 15 (some 5) (.assign (.tmp 40)) none [12]) (o16:OpIn ops 16 (some 6) (.assign (.tmp 41)) none [13]) (o17:OpIn ops 17 (some 7) (.assign (.tmp 42)) none [14])
  (hS:S w0.drew)
  (x0:∀ w,S w→(Instr.loadAt 27 (.pointer (some ⟨mb,0,none⟩))).run Tryz.prog w=.ok (.agg #[.int .i64 M.d,.int .i64 M.h,.int .i64 M.l,.int .i64 M.v,.int .i64 M.u,.int .i64 M.x,.int .i64 M.t,.int .i64 M.n,.slice E.a E.n E.c,.slice L.a L.n L.c,.slice N.a N.n N.c,.slice O.a O.n O.c]) w)
  (x1:∀ w,(Instr.fieldAt 47 (.pointer (some ⟨kb,0,none⟩)) 2).run Tryz.prog w=.ok (.pointer (some ⟨kb,9,none⟩)) w)
  (x2:∀ w,S w→(Instr.loadAt 3 (.pointer (some ⟨kb,9,none⟩))).run Tryz.prog w=.ok (.int .i64 rk) w)
  (x3:∀ w,(Instr.fieldAt 47 (.pointer (some ⟨kb,0,none⟩)) 0).run Tryz.prog w=.ok (.pointer (some ⟨kb,0,none⟩)) w)
  (x4:∀ w,S w→(Instr.loadAt 23 (.pointer (some ⟨kb,0,none⟩))).run Tryz.prog w=.ok (.agg #[.int .i64 M.d,.int .i64 M.h,.int .i64 M.l,.int .i64 M.v,.int .i64 M.u,.int .i64 M.x,.int .i64 M.t,.int .i64 M.n]) w)
  (x5:∀ w,(Instr.fieldAt 47 (.pointer (some ⟨kb,0,none⟩)) 1).run Tryz.prog w=.ok (.pointer (some ⟨kb,8,none⟩)) w)
  (x6:∀ w,S w→(Instr.loadAt 44 (.pointer (some ⟨kb,8,none⟩))).run Tryz.prog w=.ok (.int .u64 sd9) w)
  (x7:∀ w,S w→Calls Tryz.prog 20 #[.int .i64 rk,.agg #[.int .i64 M.d,.int .i64 M.h,.int .i64 M.l,.int .i64 M.v,.int .i64 M.u,.int .i64 M.x,.int .i64 M.t,.int .i64 M.n],.int .u64 sd9] w fun e w'=>(∃ (La:SL) (Ya:Nat→Nat→SL),e=.returned (.agg #[.int .i64 M.r,.int .i64 M.s,.slice La.a La.n La.c])∧AdAt w' La Ya M.a)∧Below w.heap.size w w'∧S w')
  (x8:∀ w,(Instr.fieldAt 47 (.pointer (some ⟨kb,0,none⟩)) 3).run Tryz.prog w=.ok (.pointer (some ⟨kb,10,none⟩)) w)
  (x9:∀ w,S w→(Instr.loadAt 45 (.pointer (some ⟨kb,10,none⟩))).run Tryz.prog w=.ok (.slice ta tn tc) w)
  (x10:∀ w (La:SL) (Ya:Nat→Nat→SL),S w→AdAt w La Ya M.a→Calls Tryz.prog 21 #[.agg #[.int .i64 M.d,.int .i64 M.h,.int .i64 M.l,.int .i64 M.v,.int .i64 M.u,.int .i64 M.x,.int .i64 M.t,.int .i64 M.n,.slice E.a E.n E.c,.slice L.a L.n L.c,.slice N.a N.n N.c,.slice O.a O.n O.c],.agg #[.int .i64 M.r,.int .i64 M.s,.slice La.a La.n La.c],.slice ta tn tc] w fun e w'=>(∃ ya yc yb yd,e=.returned (.tuple #[.slice ya nn yc,.slice yb nn yd,.int .i64 ee])∧RA w' ya yc∧RB w' yb yd)∧Below w.heap.size w w'∧S w')
  (u1:a0.tmps.getD 1 undef=.pointer (some ⟨kb,0,none⟩))
  (u3:a0.tmps.getD 3 undef=.pointer (some ⟨mb,0,none⟩))
  (hs:120≤a0.tmps.size)
  (fin:∀ a w,a.tmps.size=a0.tmps.size→a.defers=a0.defers→(∀ s,(∀ i,i<18→sz6D i≠some s)→a.tmps.getD s undef=a0.tmps.getD s undef)→S w→(∀ i d,i<18→sz6D i=some d→sz6F M E L N O kb mb tn tc nn ta sd9 rk ee RA RB i (a.tmps.getD d undef) w)→Q .normal a w):(Code.region id ops true).wp Tryz.prog Q a0 w0:=by
 have r20:∀ args w,(callFunc 20 args).run Tryz.prog w=.ok (.enter 20 args) w:=eNo Tryz.func20 (by kernel_rfl) rfl
 have r21:∀ args w,(callFunc 21 args).run Tryz.prog w=.ok (.enter 21 args) w:=eNo Tryz.func21 (by kernel_rfl) rfl
 refine wp_region_inv2 (by kernel_rfl) hlow (Inv 18 sz6D a0 (fun l a w=>S w∧Kept2 18 sz6D a0 l a) (fun _=>sz6F M E L N O kb mb tn tc nn ta sd9 rk ee RA RB)) (Inv.start ⟨hS,kept2_start _ _ _⟩) ?_ ?_
 ·intro l i o a w ho hl hcl hdep hI
  have hi:i<18:=by rw[←hsz];exact (Array.getElem?_eq_some_iff.1 ho).1
  have ev:∀ (s:Nat),a.eval (.tmp s)=a.tmps.getD s undef:=fun _=>rfl
  have evf:∀ f,a.eval (.func f)=.func (.func f) #[] #[]:=fun _=>rfl
  have evc:∀ c:Value,a.eval (.const c)=c:=fun _=>rfl
  have inj:∀ d,sz6D i=some d→∀ j d',j<18→sz6D j=some d'→j≠i→d'≠d:=fun d hd j d' hj hd' hne e=>hne (sz6D_inj j hj i hi (by rw[hd',hd,e]) (by rw[hd'];simp))
  have kp:∀ s,(∀ i,i<18→sz6D i≠some s)→a.tmps.getD s undef=a0.tmps.getD s undef:=hI.kept
  have hw:S w:=hI.world.1
  have k2:=hI.world.2
  have ex0:=hI.world.2
  have go:∀ {d:Nat}{v:Value}{w':World},sz6D i=some d→Below w.heap.size w w'→S w'→sz6F M E L N O kb mb tn tc nn ta sd9 rk ee RA RB i v w'→Inv 18 sz6D a0 (fun l a w=>S w∧Kept2 18 sz6D a0 l a) (fun _=>sz6F M E L N O kb mb tn tc nn ta sd9 rk ee RA RB) (fun j=>l j || j==i) (a.put (some d) v) w':=by
   intro d v w' hD hb hS' hF
   exact hI.put hi hD (Nat.lt_of_lt_of_le (sz6D_lt i hi d hD) hs) (inj d hD) ⟨hS',k2.put hD (by rw[hI.size];exact Nat.lt_of_lt_of_le (sz6D_lt i hi d hD) hs) hi⟩ hF (fun j u _ _ _ hf=>sz6F_below hf hb hRA hRB)
  rcases (show i=0∨i=1∨i=2∨i=3∨i=4∨i=5∨i=6∨i=7∨i=8∨i=9∨i=10∨i=11∨i=12∨i=13∨i=14∨i=15∨i=16∨i=17 by omega) with rfl|rfl|rfl|rfl|rfl|rfl|rfl|rfl|rfl|rfl|rfl|rfl|rfl|rfl|rfl|rfl|rfl|rfl
  ·obtain⟨o',e1,e2,e3,e4,e5⟩:=o0
   obtain rfl:=sOp ho e1
   have dp:=dPo e5 hdep
   have U3:a.tmps.getD 3 undef=.pointer (some ⟨mb,0,none⟩):=(kp 3 (by decide)).trans u3
   exact wVa (v:=.agg #[.int .i64 M.d,.int .i64 M.h,.int .i64 M.l,.int .i64 M.v,.int .i64 M.u,.int .i64 M.x,.int .i64 M.t,.int .i64 M.n,.slice E.a E.n E.c,.slice L.a L.n L.c,.slice N.a N.n N.c,.slice O.a O.n O.c]) (w':=w) ho e4 (by simp[execOp,e3,ev,evc,U3,x0 w hw]) (by rw[e2];exact go rfl (Below.refl _ _) hw rfl)
  ·obtain⟨o',e1,e2,e3,e4,e5⟩:=o1
   obtain rfl:=sOp ho e1
   have dp:=dPo e5 hdep
   have U1:a.tmps.getD 1 undef=.pointer (some ⟨kb,0,none⟩):=(kp 1 (by decide)).trans u1
   exact wVa (v:=.pointer (some ⟨kb,9,none⟩)) (w':=w) ho e4 (by simp[execOp,e3,ev,evc,U1,x1 w]) (by rw[e2];exact go rfl (Below.refl _ _) hw rfl)
  ·obtain⟨o',e1,e2,e3,e4,e5⟩:=o2
   obtain rfl:=sOp ho e1
   have dp:=dPo e5 hdep
   have V1:a.tmps.getD 30 undef=.pointer (some ⟨kb,9,none⟩):=hI.val 1 30 (by decide) rfl (dp 1 (by decide))
   exact wVa (v:=.int .i64 rk) (w':=w) ho e4 (by simp[execOp,e3,ev,evc,V1,x2 w hw]) (by rw[e2];exact go rfl (Below.refl _ _) hw rfl)
  ·obtain⟨o',e1,e2,e3,e4,e5⟩:=o3
   obtain rfl:=sOp ho e1
   have dp:=dPo e5 hdep
   have U1:a.tmps.getD 1 undef=.pointer (some ⟨kb,0,none⟩):=(kp 1 (by decide)).trans u1
   exact wVa (v:=.pointer (some ⟨kb,0,none⟩)) (w':=w) ho e4 (by simp[execOp,e3,ev,evc,U1,x3 w]) (by rw[e2];exact go rfl (Below.refl _ _) hw rfl)
  ·obtain⟨o',e1,e2,e3,e4,e5⟩:=o4
   obtain rfl:=sOp ho e1
   have dp:=dPo e5 hdep
   have V3:a.tmps.getD 32 undef=.pointer (some ⟨kb,0,none⟩):=hI.val 3 32 (by decide) rfl (dp 3 (by decide))
   exact wVa (v:=.agg #[.int .i64 M.d,.int .i64 M.h,.int .i64 M.l,.int .i64 M.v,.int .i64 M.u,.int .i64 M.x,.int .i64 M.t,.int .i64 M.n]) (w':=w) ho e4 (by simp[execOp,e3,ev,evc,V3,x4 w hw]) (by rw[e2];exact go rfl (Below.refl _ _) hw rfl)
  ·obtain⟨o',e1,e2,e3,e4,e5⟩:=o5
   obtain rfl:=sOp ho e1
   have dp:=dPo e5 hdep
   have U1:a.tmps.getD 1 undef=.pointer (some ⟨kb,0,none⟩):=(kp 1 (by decide)).trans u1
   exact wVa (v:=.pointer (some ⟨kb,8,none⟩)) (w':=w) ho e4 (by simp[execOp,e3,ev,evc,U1,x5 w]) (by rw[e2];exact go rfl (Below.refl _ _) hw rfl)
  ·obtain⟨o',e1,e2,e3,e4,e5⟩:=o6
   obtain rfl:=sOp ho e1
   have dp:=dPo e5 hdep
   have V5:a.tmps.getD 34 undef=.pointer (some ⟨kb,8,none⟩):=hI.val 5 34 (by decide) rfl (dp 5 (by decide))
   exact wVa (v:=.int .u64 sd9) (w':=w) ho e4 (by simp[execOp,e3,ev,evc,V5,x6 w hw]) (by rw[e2];exact go rfl (Below.refl _ _) hw rfl)
  ·obtain⟨o',e1,e2,e3,e4,e5⟩:=o7
   obtain rfl:=sOp ho e1
   have dp:=dPo e5 hdep
   have V2:a.tmps.getD 31 undef=.int .i64 rk:=hI.val 2 31 (by decide) rfl (dp 2 (by decide))
   have V4:a.tmps.getD 33 undef=.agg #[.int .i64 M.d,.int .i64 M.h,.int .i64 M.l,.int .i64 M.v,.int .i64 M.u,.int .i64 M.x,.int .i64 M.t,.int .i64 M.n]:=hI.val 4 33 (by decide) rfl (dp 4 (by decide))
   have V6:a.tmps.getD 35 undef=.int .u64 sd9:=hI.val 6 35 (by decide) rfl (dp 6 (by decide))
   refine wCa (f:=20) (args:=#[.int .i64 rk,.agg #[.int .i64 M.d,.int .i64 M.h,.int .i64 M.l,.int .i64 M.v,.int .i64 M.u,.int .i64 M.x,.int .i64 M.t,.int .i64 M.n],.int .u64 sd9]) ho e4 (by simp[execOp,e3,resolve,invoke,Deferred.ofValue,r20,ev,evf,evc,V2,V4,V6]) ((x7 w hw).mono ?_)
   rintro e W' ⟨⟨L6,Y6,rfl,f6⟩,hb6,hs6⟩
   refine⟨_,rfl,?_⟩
   rw[e2]
   exact go rfl hb6 hs6 ⟨L6,Y6,rfl,f6⟩
  ·obtain⟨o',e1,e2,e3,e4,e5⟩:=o8
   obtain rfl:=sOp ho e1
   have dp:=dPo e5 hdep
   have U1:a.tmps.getD 1 undef=.pointer (some ⟨kb,0,none⟩):=(kp 1 (by decide)).trans u1
   exact wVa (v:=.pointer (some ⟨kb,10,none⟩)) (w':=w) ho e4 (by simp[execOp,e3,ev,evc,U1,x8 w]) (by rw[e2];exact go rfl (Below.refl _ _) hw rfl)
  ·obtain⟨o',e1,e2,e3,e4,e5⟩:=o9
   obtain rfl:=sOp ho e1
   have dp:=dPo e5 hdep
   have V8:a.tmps.getD 37 undef=.pointer (some ⟨kb,10,none⟩):=hI.val 8 37 (by decide) rfl (dp 8 (by decide))
   exact wVa (v:=.slice ta tn tc) (w':=w) ho e4 (by simp[execOp,e3,ev,evc,V8,x9 w hw]) (by rw[e2];exact go rfl (Below.refl _ _) hw rfl)
  ·obtain⟨o',e1,e2,e3,e4,e5⟩:=o10
   obtain rfl:=sOp ho e1
   have dp:=dPo e5 hdep
   have V0:a.tmps.getD 29 undef=.agg #[.int .i64 M.d,.int .i64 M.h,.int .i64 M.l,.int .i64 M.v,.int .i64 M.u,.int .i64 M.x,.int .i64 M.t,.int .i64 M.n,.slice E.a E.n E.c,.slice L.a L.n L.c,.slice N.a N.n N.c,.slice O.a O.n O.c]:=hI.val 0 29 (by decide) rfl (dp 0 (by decide))
   obtain⟨La7,Ya7,V7,f7⟩:∃ (La:SL) (Ya:Nat→Nat→SL),a.tmps.getD 36 undef=.agg #[.int .i64 M.r,.int .i64 M.s,.slice La.a La.n La.c]∧AdAt w La Ya M.a:=hI.val 7 36 (by decide) rfl (dp 7 (by decide))
   have V9:a.tmps.getD 38 undef=.slice ta tn tc:=hI.val 9 38 (by decide) rfl (dp 9 (by decide))
   refine wCa (f:=21) (args:=#[.agg #[.int .i64 M.d,.int .i64 M.h,.int .i64 M.l,.int .i64 M.v,.int .i64 M.u,.int .i64 M.x,.int .i64 M.t,.int .i64 M.n,.slice E.a E.n E.c,.slice L.a L.n L.c,.slice N.a N.n N.c,.slice O.a O.n O.c],.agg #[.int .i64 M.r,.int .i64 M.s,.slice La7.a La7.n La7.c],.slice ta tn tc]) ho e4 (by simp[execOp,e3,resolve,invoke,Deferred.ofValue,r21,ev,evf,evc,V0,V7,V9]) ((x10 w La7 Ya7 hw f7).mono ?_)
   rintro e W' ⟨⟨a6,c6,b6,d6,rfl,fa6,fb6⟩,hb6,hs6⟩
   refine⟨_,rfl,?_⟩
   rw[e2]
   exact go rfl hb6 hs6 ⟨a6,c6,b6,d6,rfl,fa6,fb6⟩
  ·obtain⟨o',e1,e2,e3,e4,e5⟩:=o11
   obtain rfl:=sOp ho e1
   have dp:=dPo e5 hdep
   obtain⟨a10,c10,b10,d10,V10,fa10,fb10⟩:∃ ya yc yb yd,a.tmps.getD 39 undef=.tuple #[.slice ya nn yc,.slice yb nn yd,.int .i64 ee]∧RA w ya yc∧RB w yb yd:=hI.val 10 39 (by decide) rfl (dp 10 (by decide))
   exact wVa (v:=.tuple #[.slice a10 nn c10,.slice b10 nn d10,.int .i64 ee]) (w':=w) ho e4 (by simp[execOp,e3,ev,evc,V10]) (by rw[e2];exact go rfl (Below.refl _ _) hw ⟨a10,c10,b10,d10,rfl,fa10,fb10⟩)
  ·obtain⟨o',e1,e2,e3,e4,e5⟩:=o12
   obtain rfl:=sOp ho e1
   have dp:=dPo e5 hdep
   obtain⟨a11,c11,b11,d11,V11,fa11,fb11⟩:∃ ya yc yb yd,a.tmps.getD 28 undef=.tuple #[.slice ya nn yc,.slice yb nn yd,.int .i64 ee]∧RA w ya yc∧RB w yb yd:=hI.val 11 28 (by decide) rfl (dp 11 (by decide))
   exact wVa (v:=.slice a11 nn c11) (w':=w) ho e4 (by simp[execOp,e3,ev,evc,V11,Instr.extract]) (by rw[e2];exact go rfl (Below.refl _ _) hw ⟨a11,c11,rfl,fa11⟩)
  ·obtain⟨o',e1,e2,e3,e4,e5⟩:=o13
   obtain rfl:=sOp ho e1
   have dp:=dPo e5 hdep
   obtain⟨a11,c11,b11,d11,V11,fa11,fb11⟩:∃ ya yc yb yd,a.tmps.getD 28 undef=.tuple #[.slice ya nn yc,.slice yb nn yd,.int .i64 ee]∧RA w ya yc∧RB w yb yd:=hI.val 11 28 (by decide) rfl (dp 11 (by decide))
   exact wVa (v:=.slice b11 nn d11) (w':=w) ho e4 (by simp[execOp,e3,ev,evc,V11,Instr.extract]) (by rw[e2];exact go rfl (Below.refl _ _) hw ⟨b11,d11,rfl,fb11⟩)
  ·obtain⟨o',e1,e2,e3,e4,e5⟩:=o14
   obtain rfl:=sOp ho e1
   have dp:=dPo e5 hdep
   obtain⟨a11,c11,b11,d11,V11,fa11,fb11⟩:∃ ya yc yb yd,a.tmps.getD 28 undef=.tuple #[.slice ya nn yc,.slice yb nn yd,.int .i64 ee]∧RA w ya yc∧RB w yb yd:=hI.val 11 28 (by decide) rfl (dp 11 (by decide))
   exact wVa (v:=.int .i64 ee) (w':=w) ho e4 (by simp[execOp,e3,ev,evc,V11,Instr.extract]) (by rw[e2];exact go rfl (Below.refl _ _) hw rfl)
  ·obtain⟨o',e1,e2,e3,e4,e5⟩:=o15
   obtain rfl:=sOp ho e1
   have dp:=dPo e5 hdep
   obtain⟨a12,c12,V12,f12⟩:∃ ya yc,a.tmps.getD 40 undef=.slice ya nn yc∧RA w ya yc:=hI.val 12 40 (by decide) rfl (dp 12 (by decide))
   exact wVa (v:=.slice a12 nn c12) (w':=w) ho e4 (by simp[execOp,e3,ev,evc,V12]) (by rw[e2];exact go rfl (Below.refl _ _) hw ⟨a12,c12,rfl,f12⟩)
  ·obtain⟨o',e1,e2,e3,e4,e5⟩:=o16
   obtain rfl:=sOp ho e1
   have dp:=dPo e5 hdep
   obtain⟨a13,c13,V13,f13⟩:∃ ya yc,a.tmps.getD 41 undef=.slice ya nn yc∧RB w ya yc:=hI.val 13 41 (by decide) rfl (dp 13 (by decide))
   exact wVa (v:=.slice a13 nn c13) (w':=w) ho e4 (by simp[execOp,e3,ev,evc,V13]) (by rw[e2];exact go rfl (Below.refl _ _) hw ⟨a13,c13,rfl,f13⟩)
  ·obtain⟨o',e1,e2,e3,e4,e5⟩:=o17
   obtain rfl:=sOp ho e1
   have dp:=dPo e5 hdep
   have V14:a.tmps.getD 42 undef=.int .i64 ee:=hI.val 14 42 (by decide) rfl (dp 14 (by decide))
   exact wVa (v:=.int .i64 ee) (w':=w) ho e4 (by simp[execOp,e3,ev,evc,V14]) (by rw[e2];exact go rfl (Below.refl _ _) hw rfl)
 ·intro l a w hall hI
  have all:∀ j,j<18→l j=true:=fun j hj=>hall j (by rw[hsz];exact hj)
  exact fin a w hI.size hI.defers hI.kept hI.world.1 (fun i d hi hD=>hI.val i d hi hD (all i hi))
end
end Go.Proofs.YthliomlmhfjhnaaGreat
