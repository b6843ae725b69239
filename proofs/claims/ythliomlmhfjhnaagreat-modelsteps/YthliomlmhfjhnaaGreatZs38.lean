/- Texts put together. -/
import Derived.Test.YthliomlmhfjhnaaGreatZs37
namespace Go.Proofs.YthliomlmhfjhnaaGreat
set_option maxRecDepth 20000
set_option maxHeartbeats 16000000
open Go.ChangeShapes Go.WideShapes Go.ChangeAt Go.RowKit
set_option linter.unusedVariables false
set_option linter.unusedSimpArgs false
theorem run_load27 {w:World}{b:Nat}{d h l v u x t n:Int}{E L N O:SL}(q:Blk 27 w b #[.int .i64 d,.int .i64 h,.int .i64 l,.int .i64 v,.int .i64 u,.int .i64 x,.int .i64 t,.int .i64 n,.slice E.a E.n E.c,.slice L.a L.n L.c,.slice N.a N.n N.c,.slice O.a O.n O.c]):(Instr.loadAt 27 (.pointer (some ⟨b,0,none⟩))).run Tryz.prog w=.ok (.agg #[.int .i64 d,.int .i64 h,.int .i64 l,.int .i64 v,.int .i64 u,.int .i64 x,.int .i64 t,.int .i64 n,.slice E.a E.n E.c,.slice L.a L.n L.c,.slice N.a N.n N.c,.slice O.a O.n O.c]) w:=by
 obtain⟨c0,c1,c2,c3,c4,c5,c6,c7,c8,c9,c10,c11⟩:=q.c12
 go_simp
theorem rL3 {w:World}{b:Nat}{r s:Int}{La:SL}(q:Blk 30 w b #[.int .i64 r,.int .i64 s,.slice La.a La.n La.c]):(Instr.loadAt 30 (.pointer (some ⟨b,0,none⟩))).run Tryz.prog w=.ok (.agg #[.int .i64 r,.int .i64 s,.slice La.a La.n La.c]) w:=by
 obtain⟨c0,c1,c2⟩:=q.c3
 go_simp
theorem run_store27s {w:World}{b:Nat}{x0 x1 x2 x3 x4 x5 x6 x7 x8 x9 x10 x11:Value}(q:Blk 27 w b #[x0,x1,x2,x3,x4,x5,x6,x7,x8,x9,x10,x11])(d h l v u x t n:Int)(E L N O:SL):∃ w',(Instr.storeAt 27 (.pointer (some ⟨b,0,none⟩)) (.agg #[.int .i64 d,.int .i64 h,.int .i64 l,.int .i64 v,.int .i64 u,.int .i64 x,.int .i64 t,.int .i64 n,.slice E.a E.n E.c,.slice L.a L.n L.c,.slice N.a N.n N.c,.slice O.a O.n O.c])).run Tryz.prog w=.ok () w'∧Blk 27 w' b #[.int .i64 d,.int .i64 h,.int .i64 l,.int .i64 v,.int .i64 u,.int .i64 x,.int .i64 t,.int .i64 n,.slice E.a E.n E.c,.slice L.a L.n L.c,.slice N.a N.n N.c,.slice O.a O.n O.c]∧Only b w w':=by
 obtain⟨c0,c1,c2,c3,c4,c5,c6,c7,c8,c9,c10,c11⟩:=q.c12
 obtain⟨o0,o1,o2,o3,o4,o5,o6,o7,o8,o9,o10,o11⟩:=q.o12
 obtain⟨W2,eW,q2,only,hz⟩:=set12 q (.int .i64 d) (.int .i64 h) (.int .i64 l) (.int .i64 v) (.int .i64 u) (.int .i64 x) (.int .i64 t) (.int .i64 n) (.slice E.a E.n E.c) (.slice L.a L.n L.c) (.slice N.a N.n N.c) (.slice O.a O.n O.c)
 exact⟨W2,by rw[←eW];go_simp,q2,only⟩
theorem run_store30s {w:World}{b:Nat}{x0 x1 x2:Value}(q:Blk 30 w b #[x0,x1,x2])(r s:Int)(La:SL):∃ w',(Instr.storeAt 30 (.pointer (some ⟨b,0,none⟩)) (.agg #[.int .i64 r,.int .i64 s,.slice La.a La.n La.c])).run Tryz.prog w=.ok () w'∧Blk 30 w' b #[.int .i64 r,.int .i64 s,.slice La.a La.n La.c]∧Only b w w':=by
 obtain⟨c0,c1,c2⟩:=q.c3
 obtain⟨o0,o1,o2⟩:=q.o3
 obtain⟨W2,eW,q2,only,hz⟩:=set3 q (.int .i64 r) (.int .i64 s) (.slice La.a La.n La.c)
 exact⟨W2,by rw[←eW];go_simp,q2,only⟩
theorem store_same27 {w:World}{b:Nat}{d h l v u x t n:Int}{E L N O:SL}(q:Blk 27 w b #[.int .i64 d,.int .i64 h,.int .i64 l,.int .i64 v,.int .i64 u,.int .i64 x,.int .i64 t,.int .i64 n,.slice E.a E.n E.c,.slice L.a L.n L.c,.slice N.a N.n N.c,.slice O.a O.n O.c]):(Instr.storeAt 27 (.pointer (some ⟨b,0,none⟩)) (.agg #[.int .i64 d,.int .i64 h,.int .i64 l,.int .i64 v,.int .i64 u,.int .i64 x,.int .i64 t,.int .i64 n,.slice E.a E.n E.c,.slice L.a L.n L.c,.slice N.a N.n N.c,.slice O.a O.n O.c])).run Tryz.prog w=.ok () w:=by
 obtain⟨c0,c1,c2,c3,c4,c5,c6,c7,c8,c9,c10,c11⟩:=q.c12
 obtain⟨o0,o1,o2,o3,o4,o5,o6,o7,o8,o9,o10,o11⟩:=q.o12
 obtain⟨W2,eW,q2,only,hz⟩:=set12 q (.int .i64 d) (.int .i64 h) (.int .i64 l) (.int .i64 v) (.int .i64 u) (.int .i64 x) (.int .i64 t) (.int .i64 n) (.slice E.a E.n E.c) (.slice L.a L.n L.c) (.slice N.a N.n N.c) (.slice O.a O.n O.c)
 have e:W2=w:=by
  rw[←eW,sSa c0,sSa c1,sSa c2,sSa c3,sSa c4,sSa c5,sSa c6,sSa c7,sSa c8,sSa c9,sSa c10,sSa c11]
 subst e
 conv=>rhs;rw[←eW]
 go_simp
def cyD (i:Nat):Option Nat:=match i with|0=>some 6|1=>some 7|2=>some 8|3=>some 9|_=>none
theorem cyD_inj:∀ i,i<5→∀ j,j<5→cyD i=cyD j→cyD i≠none→i=j:=by decide
theorem cyD_lt:∀ i,i<5→∀ d,cyD i=some d→d<22:=by
 intro i hi d h
 have:∀ i,i<5→(cyD i).all (fun d=>decide (d<22))=true:=by decide
 have:=this i hi
 rw[h] at this
 simpa using this
def cyF (M:Md)(E L N O:SL)(c:Int)(j:Nat)(q:Value):Prop:=match j with
 | 0=>q=.agg #[.int .i64 M.d,.int .i64 M.h,.int .i64 M.l,.int .i64 M.v,.int .i64 M.u,.int .i64 M.x,.int .i64 M.t,.int .i64 M.n,.slice E.a E.n E.c,.slice L.a L.n L.c,.slice N.a N.n N.c,.slice O.a O.n O.c]
 | 1=>q=.agg #[.int .i64 M.d,.int .i64 M.h,.int .i64 M.l,.int .i64 M.v,.int .i64 M.u,.int .i64 M.x,.int .i64 M.t,.int .i64 M.n,.slice E.a E.n E.c,.slice L.a L.n L.c,.slice N.a N.n N.c,.slice O.a O.n O.c]
 | 2=>q=.int .i64 c
 | 3=>q=.agg #[.int .i64 M.d,.int .i64 M.h,.int .i64 M.l,.int .i64 M.v,.int .i64 M.u,.int .i64 M.x,.int .i64 M.t,.int .i64 M.n,.slice E.a E.n E.c,.slice L.a L.n L.c,.slice N.a N.n N.c,.slice O.a O.n O.c]
 | _=>True
theorem cy_region {id:Nat}{ops:Array Oper}{Q:Exit→Act→World→Prop}{a0:Act}{w0:World}(M:Md)(E L N O:SL)(c:Int)(B:Nat)(hB:Blk 27 w0 B #[.int .i64 M.d,.int .i64 M.h,.int .i64 M.l,.int .i64 M.v,.int .i64 M.u,.int .i64 M.x,.int .i64 M.t,.int .i64 M.n,.slice E.a E.n E.c,.slice L.a L.n L.c,.slice N.a N.n N.c,.slice O.a O.n O.c])
  (hlow:lowB ops=true) (hsz:ops.size=5)
  (o0:OpIn ops 0 (some 6) (.load 27 (.tmp 2)) none []) (o1:OpIn ops 1 (some 7) (.load 27 (.tmp 2)) none []) (o2:OpIn ops 2 (some 8) (.call { callee:=.value (.func 47),args:=#[.tmp 7],argTypes:=#[27] }) none [1]) (o3:OpIn ops 3 (some 9) (.call { callee:=.value (.func 46),args:=#[.tmp 6,.tmp 8],argTypes:=#[27,35] }) none [0,2]) (o4:OpIn ops 4 none (.store 27 (.tmp 2) (.tmp 9)) none [3])
  (ub:a0.tmps.getD 2 undef=.pointer (some ⟨B,0,none⟩))
  (x2:∀ w,Below w0.heap.size w0 w→Calls Tryz.prog 47 #[.agg #[.int .i64 M.d,.int .i64 M.h,.int .i64 M.l,.int .i64 M.v,.int .i64 M.u,.int .i64 M.x,.int .i64 M.t,.int .i64 M.n,.slice E.a E.n E.c,.slice L.a L.n L.c,.slice N.a N.n N.c,.slice O.a O.n O.c]] w fun e w'=>e=.returned (.int .i64 c)∧Below w.heap.size w w')
  (x3:∀ w,Calls Tryz.prog 46 #[.agg #[.int .i64 M.d,.int .i64 M.h,.int .i64 M.l,.int .i64 M.v,.int .i64 M.u,.int .i64 M.x,.int .i64 M.t,.int .i64 M.n,.slice E.a E.n E.c,.slice L.a L.n L.c,.slice N.a N.n N.c,.slice O.a O.n O.c],.int .i64 c] w fun e w'=>e=.returned (.agg #[.int .i64 M.d,.int .i64 M.h,.int .i64 M.l,.int .i64 M.v,.int .i64 M.u,.int .i64 M.x,.int .i64 M.t,.int .i64 M.n,.slice E.a E.n E.c,.slice L.a L.n L.c,.slice N.a N.n N.c,.slice O.a O.n O.c])∧Below w.heap.size w w')
  (hs:22≤a0.tmps.size)
  (fin:∀ a w,a.tmps.size=a0.tmps.size→a.defers=a0.defers→(∀ s,(∀ i,i<5→cyD i≠some s)→a.tmps.getD s undef=a0.tmps.getD s undef)→Below w0.heap.size w0 w→Q .normal a w):(Code.region id ops true).wp Tryz.prog Q a0 w0:=by
 have r47:∀ args w,(callFunc 47 args).run Tryz.prog w=.ok (.enter 47 args) w:=eNo Tryz.func47 (by kernel_rfl) rfl
 have r46:∀ args w,(callFunc 46 args).run Tryz.prog w=.ok (.enter 46 args) w:=eNo Tryz.func46 (by kernel_rfl) rfl
 refine wRi (by kernel_rfl) hlow (Inv 5 cyD a0 (fun _ _ w=>Below w0.heap.size w0 w) (fun _ j q _=>cyF M E L N O c j q)) (Inv.start (Below.refl _ _).drew) ?_ ?_
 ·intro k i o a w ho hl hcl hdep hI
  have hi:i<5:=by rw[←hsz];exact (Array.getElem?_eq_some_iff.1 ho).1
  have ev:∀ (s:Nat),a.eval (.tmp s)=a.tmps.getD s undef:=fun _=>rfl
  have evf:∀ f,a.eval (.func f)=.func (.func f) #[] #[]:=fun _=>rfl
  have inj:∀ d,cyD i=some d→∀ j d',j<5→cyD j=some d'→j≠i→d'≠d:=fun d hd j d' hj hd' hne e=>hne (cyD_inj j hj i hi (by rw[hd',hd,e]) (by rw[hd'];simp))
  have kp:∀ s,(∀ i,i<5→cyD i≠some s)→a.tmps.getD s undef=a0.tmps.getD s undef:=hI.kept
  have hw:Below w0.heap.size w0 w:=hI.world
  have U:a.tmps.getD 2 undef=.pointer (some ⟨B,0,none⟩):=(kp 2 (by decide)).trans ub
  have go:∀ {d:Nat}{v:Value}{w':World},cyD i=some d→Below w.heap.size w w'→cyF M E L N O c i v→Inv 5 cyD a0 (fun _ _ w=>Below w0.heap.size w0 w) (fun _ j q _=>cyF M E L N O c j q) (fun j=>k j || j==i) (a.put (some d) v) w':=by
   intro d v w' hD hb hF
   exact hI.put hi hD (Nat.lt_of_lt_of_le (cyD_lt i hi d hD) hs) (inj d hD) (bTn hw hb) hF (fun j u _ _ _ hf=>hf)
  rcases (show i=0∨i=1∨i=2∨i=3∨i=4 by omega) with rfl|rfl|rfl|rfl|rfl
  ·obtain⟨o',e1,e2,e3,e4,e5⟩:=o0
   obtain rfl:=sOp ho e1
   have dp:=dPo e5 hdep
   exact wVa (v:=.agg #[.int .i64 M.d,.int .i64 M.h,.int .i64 M.l,.int .i64 M.v,.int .i64 M.u,.int .i64 M.x,.int .i64 M.t,.int .i64 M.n,.slice E.a E.n E.c,.slice L.a L.n L.c,.slice N.a N.n N.c,.slice O.a O.n O.c]) (w':=w) ho e4 (by simp[execOp,e3,ev,U,run_load27 (hB.kept hw)]) (by rw[e2];exact go rfl (Below.refl _ _) rfl)
  ·obtain⟨o',e1,e2,e3,e4,e5⟩:=o1
   obtain rfl:=sOp ho e1
   have dp:=dPo e5 hdep
   exact wVa (v:=.agg #[.int .i64 M.d,.int .i64 M.h,.int .i64 M.l,.int .i64 M.v,.int .i64 M.u,.int .i64 M.x,.int .i64 M.t,.int .i64 M.n,.slice E.a E.n E.c,.slice L.a L.n L.c,.slice N.a N.n N.c,.slice O.a O.n O.c]) (w':=w) ho e4 (by simp[execOp,e3,ev,U,run_load27 (hB.kept hw)]) (by rw[e2];exact go rfl (Below.refl _ _) rfl)
  ·obtain⟨o',e1,e2,e3,e4,e5⟩:=o2
   obtain rfl:=sOp ho e1
   have dp:=dPo e5 hdep
   have V1:a.tmps.getD 7 undef=.agg #[.int .i64 M.d,.int .i64 M.h,.int .i64 M.l,.int .i64 M.v,.int .i64 M.u,.int .i64 M.x,.int .i64 M.t,.int .i64 M.n,.slice E.a E.n E.c,.slice L.a L.n L.c,.slice N.a N.n N.c,.slice O.a O.n O.c]:=hI.val 1 7 (by decide) rfl (dp 1 (by decide))
   refine wCa (f:=47) (args:=#[.agg #[.int .i64 M.d,.int .i64 M.h,.int .i64 M.l,.int .i64 M.v,.int .i64 M.u,.int .i64 M.x,.int .i64 M.t,.int .i64 M.n,.slice E.a E.n E.c,.slice L.a L.n L.c,.slice N.a N.n N.c,.slice O.a O.n O.c]]) ho e4 (by simp[execOp,e3,resolve,invoke,Deferred.ofValue,r47,ev,evf,V1]) ((x2 w hw).mono ?_)
   rintro e W' ⟨rfl,hb⟩
   refine⟨_,rfl,?_⟩
   rw[e2]
   exact go rfl hb rfl
  ·obtain⟨o',e1,e2,e3,e4,e5⟩:=o3
   obtain rfl:=sOp ho e1
   have dp:=dPo e5 hdep
   have V0:a.tmps.getD 6 undef=.agg #[.int .i64 M.d,.int .i64 M.h,.int .i64 M.l,.int .i64 M.v,.int .i64 M.u,.int .i64 M.x,.int .i64 M.t,.int .i64 M.n,.slice E.a E.n E.c,.slice L.a L.n L.c,.slice N.a N.n N.c,.slice O.a O.n O.c]:=hI.val 0 6 (by decide) rfl (dp 0 (by decide))
   have V2:a.tmps.getD 8 undef=.int .i64 c:=hI.val 2 8 (by decide) rfl (dp 2 (by decide))
   refine wCa (f:=46) (args:=#[.agg #[.int .i64 M.d,.int .i64 M.h,.int .i64 M.l,.int .i64 M.v,.int .i64 M.u,.int .i64 M.x,.int .i64 M.t,.int .i64 M.n,.slice E.a E.n E.c,.slice L.a L.n L.c,.slice N.a N.n N.c,.slice O.a O.n O.c],.int .i64 c]) ho e4 (by simp[execOp,e3,resolve,invoke,Deferred.ofValue,r46,ev,evf,V0,V2]) ((x3 w).mono ?_)
   rintro e W' ⟨rfl,hb⟩
   refine⟨_,rfl,?_⟩
   rw[e2]
   exact go rfl hb rfl
  ·obtain⟨o',e1,e2,e3,e4,e5⟩:=o4
   obtain rfl:=sOp ho e1
   have dp:=dPo e5 hdep
   have V3:a.tmps.getD 9 undef=.agg #[.int .i64 M.d,.int .i64 M.h,.int .i64 M.l,.int .i64 M.v,.int .i64 M.u,.int .i64 M.x,.int .i64 M.t,.int .i64 M.n,.slice E.a E.n E.c,.slice L.a L.n L.c,.slice N.a N.n N.c,.slice O.a O.n O.c]:=hI.val 3 9 (by decide) rfl (dp 3 (by decide))
   refine wSk (w':=w) ho e4 (by simp[execOp,e3,ev,U,V3,store_same27 (hB.kept hw)]) ?_
   rw[e2]
   exact hI.none_ rfl hw (fun j u _ _ _ hf=>hf)
 ·intro k a w hall hI
  have all:∀ j,j<5→k j=true:=fun j hj=>hall j (by rw[hsz];exact hj)
  exact fin a w hI.size hI.defers hI.kept hI.world
def cnD (i:Nat):Option Nat:=match i with|0=>some 6|1=>some 7|2=>some 8|3=>some 9|_=>none
theorem cnD_inj:∀ i,i<5→∀ j,j<5→cnD i=cnD j→cnD i≠none→i=j:=by decide
theorem cnD_lt:∀ i,i<5→∀ d,cnD i=some d→d<22:=by
 intro i hi d h
 have:∀ i,i<5→(cnD i).all (fun d=>decide (d<22))=true:=by decide
 have:=this i hi
 rw[h] at this
 simpa using this
def cnF (M:Md)(E L N O:SL)(c:Int)(j:Nat)(q:Value):Prop:=match j with
 | 0=>q=.agg #[.int .i64 M.d,.int .i64 M.h,.int .i64 M.l,.int .i64 M.v,.int .i64 M.u,.int .i64 M.x,.int .i64 M.t,.int .i64 M.n,.slice E.a E.n E.c,.slice L.a L.n L.c,.slice N.a N.n N.c,.slice O.a O.n O.c]
 | 1=>q=.agg #[.int .i64 M.d,.int .i64 M.h,.int .i64 M.l,.int .i64 M.v,.int .i64 M.u,.int .i64 M.x,.int .i64 M.t,.int .i64 M.n,.slice E.a E.n E.c,.slice L.a L.n L.c,.slice N.a N.n N.c,.slice O.a O.n O.c]
 | 2=>q=.int .i64 c
 | 3=>False
 | _=>True
theorem cn_region {id:Nat}{ops:Array Oper}{Q:Exit→Act→World→Prop}{a0:Act}{w0:World}(M:Md)(E L N O:SL)(c:Int)(B:Nat)(ch:List PanicEntry)(hB:Blk 27 w0 B #[.int .i64 M.d,.int .i64 M.h,.int .i64 M.l,.int .i64 M.v,.int .i64 M.u,.int .i64 M.x,.int .i64 M.t,.int .i64 M.n,.slice E.a E.n E.c,.slice L.a L.n L.c,.slice N.a N.n N.c,.slice O.a O.n O.c])
  (hlow:lowB ops=true) (hsz:ops.size=5)
  (o0:OpIn ops 0 (some 6) (.load 27 (.tmp 2)) none []) (o1:OpIn ops 1 (some 7) (.load 27 (.tmp 2)) none []) (o2:OpIn ops 2 (some 8) (.call { callee:=.value (.func 47),args:=#[.tmp 7],argTypes:=#[27] }) none [1]) (o3:OpIn ops 3 (some 9) (.call { callee:=.value (.func 46),args:=#[.tmp 6,.tmp 8],argTypes:=#[27,35] }) none [0,2]) (o4:OpIn ops 4 none (.store 27 (.tmp 2) (.tmp 9)) none [3])
  (ub:a0.tmps.getD 2 undef=.pointer (some ⟨B,0,none⟩))
  (x2:∀ w,Below w0.heap.size w0 w→Calls Tryz.prog 47 #[.agg #[.int .i64 M.d,.int .i64 M.h,.int .i64 M.l,.int .i64 M.v,.int .i64 M.u,.int .i64 M.x,.int .i64 M.t,.int .i64 M.n,.slice E.a E.n E.c,.slice L.a L.n L.c,.slice N.a N.n N.c,.slice O.a O.n O.c]] w fun e w'=>e=.returned (.int .i64 c)∧Below w.heap.size w w')
  (x3:∀ w,Calls Tryz.prog 46 #[.agg #[.int .i64 M.d,.int .i64 M.h,.int .i64 M.l,.int .i64 M.v,.int .i64 M.u,.int .i64 M.x,.int .i64 M.t,.int .i64 M.n,.slice E.a E.n E.c,.slice L.a L.n L.c,.slice N.a N.n N.c,.slice O.a O.n O.c],.int .i64 c] w fun e w'=>e=.panicked ch∧Below w.heap.size w w')
  (hs:22≤a0.tmps.size)
  (pan:∀ a w,a.defers=a0.defers→(∀ s,(∀ i,i<5→cnD i≠some s)→a.tmps.getD s undef=a0.tmps.getD s undef)→Below w0.heap.size w0 w→Q (.panic ch) a w):(Code.region id ops true).wp Tryz.prog Q a0 w0:=by
 have r47:∀ args w,(callFunc 47 args).run Tryz.prog w=.ok (.enter 47 args) w:=eNo Tryz.func47 (by kernel_rfl) rfl
 have r46:∀ args w,(callFunc 46 args).run Tryz.prog w=.ok (.enter 46 args) w:=eNo Tryz.func46 (by kernel_rfl) rfl
 refine wRi (by kernel_rfl) hlow (Inv 5 cnD a0 (fun _ _ w=>Below w0.heap.size w0 w) (fun _ j q _=>cnF M E L N O c j q)) (Inv.start (Below.refl _ _).drew) ?_ ?_
 ·intro k i o a w ho hl hcl hdep hI
  have hi:i<5:=by rw[←hsz];exact (Array.getElem?_eq_some_iff.1 ho).1
  have ev:∀ (s:Nat),a.eval (.tmp s)=a.tmps.getD s undef:=fun _=>rfl
  have evf:∀ f,a.eval (.func f)=.func (.func f) #[] #[]:=fun _=>rfl
  have inj:∀ d,cnD i=some d→∀ j d',j<5→cnD j=some d'→j≠i→d'≠d:=fun d hd j d' hj hd' hne e=>hne (cnD_inj j hj i hi (by rw[hd',hd,e]) (by rw[hd'];simp))
  have kp:∀ s,(∀ i,i<5→cnD i≠some s)→a.tmps.getD s undef=a0.tmps.getD s undef:=hI.kept
  have hw:Below w0.heap.size w0 w:=hI.world
  have U:a.tmps.getD 2 undef=.pointer (some ⟨B,0,none⟩):=(kp 2 (by decide)).trans ub
  have go:∀ {d:Nat}{v:Value}{w':World},cnD i=some d→Below w.heap.size w w'→cnF M E L N O c i v→Inv 5 cnD a0 (fun _ _ w=>Below w0.heap.size w0 w) (fun _ j q _=>cnF M E L N O c j q) (fun j=>k j || j==i) (a.put (some d) v) w':=by
   intro d v w' hD hb hF
   exact hI.put hi hD (Nat.lt_of_lt_of_le (cnD_lt i hi d hD) hs) (inj d hD) (bTn hw hb) hF (fun j u _ _ _ hf=>hf)
  rcases (show i=0∨i=1∨i=2∨i=3∨i=4 by omega) with rfl|rfl|rfl|rfl|rfl
  ·obtain⟨o',e1,e2,e3,e4,e5⟩:=o0
   obtain rfl:=sOp ho e1
   have dp:=dPo e5 hdep
   exact wVa (v:=.agg #[.int .i64 M.d,.int .i64 M.h,.int .i64 M.l,.int .i64 M.v,.int .i64 M.u,.int .i64 M.x,.int .i64 M.t,.int .i64 M.n,.slice E.a E.n E.c,.slice L.a L.n L.c,.slice N.a N.n N.c,.slice O.a O.n O.c]) (w':=w) ho e4 (by simp[execOp,e3,ev,U,run_load27 (hB.kept hw)]) (by rw[e2];exact go rfl (Below.refl _ _) rfl)
  ·obtain⟨o',e1,e2,e3,e4,e5⟩:=o1
   obtain rfl:=sOp ho e1
   have dp:=dPo e5 hdep
   exact wVa (v:=.agg #[.int .i64 M.d,.int .i64 M.h,.int .i64 M.l,.int .i64 M.v,.int .i64 M.u,.int .i64 M.x,.int .i64 M.t,.int .i64 M.n,.slice E.a E.n E.c,.slice L.a L.n L.c,.slice N.a N.n N.c,.slice O.a O.n O.c]) (w':=w) ho e4 (by simp[execOp,e3,ev,U,run_load27 (hB.kept hw)]) (by rw[e2];exact go rfl (Below.refl _ _) rfl)
  ·obtain⟨o',e1,e2,e3,e4,e5⟩:=o2
   obtain rfl:=sOp ho e1
   have dp:=dPo e5 hdep
   have V1:a.tmps.getD 7 undef=.agg #[.int .i64 M.d,.int .i64 M.h,.int .i64 M.l,.int .i64 M.v,.int .i64 M.u,.int .i64 M.x,.int .i64 M.t,.int .i64 M.n,.slice E.a E.n E.c,.slice L.a L.n L.c,.slice N.a N.n N.c,.slice O.a O.n O.c]:=hI.val 1 7 (by decide) rfl (dp 1 (by decide))
   refine wCa (f:=47) (args:=#[.agg #[.int .i64 M.d,.int .i64 M.h,.int .i64 M.l,.int .i64 M.v,.int .i64 M.u,.int .i64 M.x,.int .i64 M.t,.int .i64 M.n,.slice E.a E.n E.c,.slice L.a L.n L.c,.slice N.a N.n N.c,.slice O.a O.n O.c]]) ho e4 (by simp[execOp,e3,resolve,invoke,Deferred.ofValue,r47,ev,evf,V1]) ((x2 w hw).mono ?_)
   rintro e W' ⟨rfl,hb⟩
   refine⟨_,rfl,?_⟩
   rw[e2]
   exact go rfl hb rfl
  ·obtain⟨o',e1,e2,e3,e4,e5⟩:=o3
   obtain rfl:=sOp ho e1
   have dp:=dPo e5 hdep
   have V0:a.tmps.getD 6 undef=.agg #[.int .i64 M.d,.int .i64 M.h,.int .i64 M.l,.int .i64 M.v,.int .i64 M.u,.int .i64 M.x,.int .i64 M.t,.int .i64 M.n,.slice E.a E.n E.c,.slice L.a L.n L.c,.slice N.a N.n N.c,.slice O.a O.n O.c]:=hI.val 0 6 (by decide) rfl (dp 0 (by decide))
   have V2:a.tmps.getD 8 undef=.int .i64 c:=hI.val 2 8 (by decide) rfl (dp 2 (by decide))
   refine wpOp_panic (f:=46) (args:=#[.agg #[.int .i64 M.d,.int .i64 M.h,.int .i64 M.l,.int .i64 M.v,.int .i64 M.u,.int .i64 M.x,.int .i64 M.t,.int .i64 M.n,.slice E.a E.n E.c,.slice L.a L.n L.c,.slice N.a N.n N.c,.slice O.a O.n O.c],.int .i64 c]) ho e4 (by simp[execOp,e3,resolve,invoke,Deferred.ofValue,r46,ev,evf,V0,V2]) ((x3 w).mono ?_)
   rintro e W' ⟨rfl,hb⟩
   exact⟨ch,rfl,pan a W' hI.defers kp (bTn hw hb)⟩
  ·obtain⟨o',e1,e2,e3,e4,e5⟩:=o4
   obtain rfl:=sOp ho e1
   have dp:=dPo e5 hdep
   exact ((hI.val 3 9 (by decide) rfl (dp 3 (by decide))):False).elim
 ·intro k a w hall hI
  have all:∀ j,j<5→k j=true:=fun j hj=>hall j (by rw[hsz];exact hj)
  exact ((hI.val 3 9 (by decide) rfl (all 3 (by decide))):False).elim
def c3D (i:Nat):Option Nat:=match i with|0=>some 13|1=>some 14|_=>none
theorem c3D_inj:∀ i,i<4→∀ j,j<4→c3D i=c3D j→c3D i≠none→i=j:=by decide
theorem c3D_lt:∀ i,i<4→∀ d,c3D i=some d→d<22:=by
 intro i hi d h
 have:∀ i,i<4→(c3D i).all (fun d=>decide (d<22))=true:=by decide
 have:=this i hi
 rw[h] at this
 simpa using this
def c3F (M:Md)(E L N O La:SL)(b1 b2 b3 b4:Nat)(c:Int)(j:Nat)(q:Value):Prop:=match j with
 | 0=>q=.agg #[.int .i64 M.d,.int .i64 M.h,.int .i64 M.l,.int .i64 M.v,.int .i64 M.u,.int .i64 M.x,.int .i64 M.t,.int .i64 M.n,.slice E.a E.n E.c,.slice L.a L.n L.c,.slice N.a N.n N.c,.slice O.a O.n O.c]
 | 1=>q=.agg #[.int .i64 M.r,.int .i64 M.s,.slice La.a La.n La.c]
 | _=>True
def c3S (M:Md)(E L N O La:SL)(b1 b2 b3 b4 B:Nat)(w00:World)(l:Nat→Bool)(w:World):Prop:=Below B w00 w∧B≤w.heap.size∧Blk 27 w b1 #[.int .i64 M.d,.int .i64 M.h,.int .i64 M.l,.int .i64 M.v,.int .i64 M.u,.int .i64 M.x,.int .i64 M.t,.int .i64 M.n,.slice E.a E.n E.c,.slice L.a L.n L.c,.slice N.a N.n N.c,.slice O.a O.n O.c]∧Blk 30 w b2 #[.int .i64 M.r,.int .i64 M.s,.slice La.a La.n La.c]∧Blk 27 w b3 (cond (l 2) #[.int .i64 M.d,.int .i64 M.h,.int .i64 M.l,.int .i64 M.v,.int .i64 M.u,.int .i64 M.x,.int .i64 M.t,.int .i64 M.n,.slice E.a E.n E.c,.slice L.a L.n L.c,.slice N.a N.n N.c,.slice O.a O.n O.c] #[.int .i64 0,.int .i64 0,.int .i64 0,.int .i64 0,.int .i64 0,.int .i64 0,.int .i64 0,.int .i64 0,.slice none 0 0,.slice none 0 0,.slice none 0 0,.slice none 0 0])∧Blk 30 w b4 (cond (l 3) #[.int .i64 M.r,.int .i64 M.s,.slice La.a La.n La.c] #[.int .i64 0,.int .i64 0,.slice none 0 0])
theorem c3_region {id:Nat}{ops:Array Oper}{Q:Exit→Act→World→Prop}{a0:Act}{w0:World}(M:Md)(E L N O La:SL)(b1 b2 b3 b4:Nat)(c:Int)(B:Nat)(w00:World)(hB1:B≤b3)(hB2:B≤b4)(n13:b1≠b3)
  (hlow:lowB ops=true) (hsz:ops.size=4)
  (o0:OpIn ops 0 (some 13) (.load 27 (.tmp 2)) none []) (o1:OpIn ops 1 (some 14) (.load 30 (.tmp 3)) none []) (o2:OpIn ops 2 none (.store 27 (.tmp 4) (.tmp 13)) none [0]) (o3:OpIn ops 3 none (.store 30 (.tmp 5) (.tmp 14)) none [1])
  (u2:a0.tmps.getD 2 undef=.pointer (some ⟨b1,0,none⟩)) (u3:a0.tmps.getD 3 undef=.pointer (some ⟨b2,0,none⟩)) (u4:a0.tmps.getD 4 undef=.pointer (some ⟨b3,0,none⟩)) (u5:a0.tmps.getD 5 undef=.pointer (some ⟨b4,0,none⟩)) (n24:b2≠b4)
  (hS:c3S M E L N O La b1 b2 b3 b4 B w00 (fun _=>false) w0.drew)
  (hs:22≤a0.tmps.size)
  (fin:∀ a w,a.tmps.size=a0.tmps.size→a.defers=a0.defers→(∀ s,(∀ i,i<4→c3D i≠some s)→a.tmps.getD s undef=a0.tmps.getD s undef)→Below B w00 w→Blk 27 w b3 #[.int .i64 M.d,.int .i64 M.h,.int .i64 M.l,.int .i64 M.v,.int .i64 M.u,.int .i64 M.x,.int .i64 M.t,.int .i64 M.n,.slice E.a E.n E.c,.slice L.a L.n L.c,.slice N.a N.n N.c,.slice O.a O.n O.c]→Blk 30 w b4 #[.int .i64 M.r,.int .i64 M.s,.slice La.a La.n La.c]→Q .normal a w):(Code.region id ops true).wp Tryz.prog Q a0 w0:=by
 have r55:∀ args w,(callFunc 55 args).run Tryz.prog w=.ok (.enter 55 args) w:=eNo Tryz.func55 (by kernel_rfl) rfl
 have r54:∀ args w,(callFunc 54 args).run Tryz.prog w=.ok (.enter 54 args) w:=eNo Tryz.func54 (by kernel_rfl) rfl
 refine wRi (by kernel_rfl) hlow (Inv 4 c3D a0 (fun l _ w=>c3S M E L N O La b1 b2 b3 b4 B w00 l w) (fun _ j q _=>c3F M E L N O La b1 b2 b3 b4 c j q)) (Inv.start hS) ?_ ?_
 ·intro l i o a w ho hl hcl hdep hI
  have hi:i<4:=by rw[←hsz];exact (Array.getElem?_eq_some_iff.1 ho).1
  have ev:∀ (s:Nat),a.eval (.tmp s)=a.tmps.getD s undef:=fun _=>rfl
  have evf:∀ f,a.eval (.func f)=.func (.func f) #[] #[]:=fun _=>rfl
  have inj:∀ d,c3D i=some d→∀ j d',j<4→c3D j=some d'→j≠i→d'≠d:=fun d hd j d' hj hd' hne e=>hne (c3D_inj j hj i hi (by rw[hd',hd,e]) (by rw[hd'];simp))
  have kp:∀ s,(∀ i,i<4→c3D i≠some s)→a.tmps.getD s undef=a0.tmps.getD s undef:=hI.kept
  obtain⟨hw,hsz',k1,k2,k3,k4⟩:=hI.world
  have oth:∀ j,j≠i→(l j || j==i)=l j:=fun j hj=>by rw[show (j==i)=false by simp[hj],Bool.or_false]
  have sam:(l i || i==i)=true:=by simp
  have U2:a.tmps.getD 2 undef=.pointer (some ⟨b1,0,none⟩):=(kp 2 (by decide)).trans u2
  have U3:a.tmps.getD 3 undef=.pointer (some ⟨b2,0,none⟩):=(kp 3 (by decide)).trans u3
  have U4:a.tmps.getD 4 undef=.pointer (some ⟨b3,0,none⟩):=(kp 4 (by decide)).trans u4
  have U5:a.tmps.getD 5 undef=.pointer (some ⟨b4,0,none⟩):=(kp 5 (by decide)).trans u5
  have go:∀ {d:Nat}{v:Value}{w':World},c3D i=some d→i≠2∧i≠3→Below w.heap.size w w'→c3F M E L N O La b1 b2 b3 b4 c i v→Inv 4 c3D a0 (fun l _ w=>c3S M E L N O La b1 b2 b3 b4 B w00 l w) (fun _ j q _=>c3F M E L N O La b1 b2 b3 b4 c j q) (fun j=>l j || j==i) (a.put (some d) v) w':=by
   intro d v w' hD hne hb hF
   refine hI.put hi hD (Nat.lt_of_lt_of_le (c3D_lt i hi d hD) hs) (inj d hD) ⟨hw.trans (hb.mono hsz'),Nat.le_trans hsz' hb.size,k1.kept hb,k2.kept hb,?_,?_⟩ hF (fun j u _ _ _ hf=>hf)
   ·dsimp only
    rw[oth 2 (fun e=>hne.1 e.symm)]
    exact k3.kept hb
   ·dsimp only
    rw[oth 3 (fun e=>hne.2 e.symm)]
    exact k4.kept hb
  rcases (show i=0∨i=1∨i=2∨i=3 by omega) with rfl|rfl|rfl|rfl
  ·obtain⟨o',e1,e2,e3,e4,e5⟩:=o0
   obtain rfl:=sOp ho e1
   have dp:=dPo e5 hdep
   exact wVa (v:=.agg #[.int .i64 M.d,.int .i64 M.h,.int .i64 M.l,.int .i64 M.v,.int .i64 M.u,.int .i64 M.x,.int .i64 M.t,.int .i64 M.n,.slice E.a E.n E.c,.slice L.a L.n L.c,.slice N.a N.n N.c,.slice O.a O.n O.c]) (w':=w) ho e4 (by simp[execOp,e3,ev,U2,run_load27 k1]) (by rw[e2];exact go rfl (by decide) (Below.refl _ _) rfl)
  ·obtain⟨o',e1,e2,e3,e4,e5⟩:=o1
   obtain rfl:=sOp ho e1
   have dp:=dPo e5 hdep
   exact wVa (v:=.agg #[.int .i64 M.r,.int .i64 M.s,.slice La.a La.n La.c]) (w':=w) ho e4 (by simp[execOp,e3,ev,U3,rL3 k2]) (by rw[e2];exact go rfl (by decide) (Below.refl _ _) rfl)
  ·obtain⟨o',e1,e2,e3,e4,e5⟩:=o2
   obtain rfl:=sOp ho e1
   have dp:=dPo e5 hdep
   have V0:a.tmps.getD 13 undef=.agg #[.int .i64 M.d,.int .i64 M.h,.int .i64 M.l,.int .i64 M.v,.int .i64 M.u,.int .i64 M.x,.int .i64 M.t,.int .i64 M.n,.slice E.a E.n E.c,.slice L.a L.n L.c,.slice N.a N.n N.c,.slice O.a O.n O.c]:=hI.val 0 13 (by decide) rfl (dp 0 (by decide))
   rw[hl] at k3
   obtain⟨w',r',q',on⟩:=run_store27s k3 M.d M.h M.l M.v M.u M.x M.t M.n E L N O
   refine wSk (w':=w') ho e4 (by simp[execOp,e3,ev,U4,V0,r']) ?_
   rw[e2]
   refine hI.none_ rfl ⟨Only.below hw hB1 hsz' on,Nat.le_trans hsz' on.size,k1.only on n13,k2.only on (k2.apart k3 (by decide)),?_,?_⟩ (fun j u _ _ _ hf=>hf)
   ·dsimp only
    rw[sam]
    exact q'
   ·dsimp only
    rw[oth 3 (by decide)]
    exact k4.only on (k4.apart k3 (by decide))
  ·obtain⟨o',e1,e2,e3,e4,e5⟩:=o3
   obtain rfl:=sOp ho e1
   have dp:=dPo e5 hdep
   have V1:a.tmps.getD 14 undef=.agg #[.int .i64 M.r,.int .i64 M.s,.slice La.a La.n La.c]:=hI.val 1 14 (by decide) rfl (dp 1 (by decide))
   rw[hl] at k4
   obtain⟨w',r',q',on⟩:=run_store30s k4 M.r M.s La
   refine wSk (w':=w') ho e4 (by simp[execOp,e3,ev,U5,V1,r']) ?_
   rw[e2]
   refine hI.none_ rfl ⟨Only.below hw hB2 hsz' on,Nat.le_trans hsz' on.size,k1.only on (k1.apart k4 (by decide)),k2.only on n24,?_,?_⟩ (fun j u _ _ _ hf=>hf)
   ·dsimp only
    rw[oth 2 (by decide)]
    exact k3.only on (k3.apart k4 (by decide))
   ·dsimp only
    rw[sam]
    exact q'
 ·intro l a w hall hI
  have all:∀ j,j<4→l j=true:=fun j hj=>hall j (by rw[hsz];exact hj)
  obtain⟨hw,-,-,-,k3,k4⟩:=hI.world
  rw[all 2 (by decide)] at k3
  rw[all 3 (by decide)] at k4
  exact fin a w hI.size hI.defers hI.kept hw k3 k4
def c4D (i:Nat):Option Nat:=match i with|0=>some 15|1=>some 16|2=>some 17|3=>some 18|4=>some 19|5=>some 20|6=>some 21|_=>none
theorem c4D_inj:∀ i,i<9→∀ j,j<9→c4D i=c4D j→c4D i≠none→i=j:=by decide
theorem c4D_lt:∀ i,i<9→∀ d,c4D i=some d→d<22:=by
 intro i hi d h
 have:∀ i,i<9→(c4D i).all (fun d=>decide (d<22))=true:=by decide
 have:=this i hi
 rw[h] at this
 simpa using this
def c4F (M:Md)(E L N O La:SL)(b1 b2 b3 b4:Nat)(c:Int)(j:Nat)(q:Value):Prop:=match j with
 | 0=>q=.agg #[.int .i64 M.d,.int .i64 M.h,.int .i64 M.l,.int .i64 M.v,.int .i64 M.u,.int .i64 M.x,.int .i64 M.t,.int .i64 M.n,.slice E.a E.n E.c,.slice L.a L.n L.c,.slice N.a N.n N.c,.slice O.a O.n O.c]
 | 1=>q=.agg #[.int .i64 M.r,.int .i64 M.s,.slice La.a La.n La.c]
 | 2=>q=.agg #[.int .i64 M.r,.int .i64 M.s,.slice La.a La.n La.c]
 | 3=>q=.pointer (some ⟨b1,0,none⟩)
 | 4=>q=.agg #[.int .i64 M.d,.int .i64 M.h,.int .i64 M.l,.int .i64 M.v,.int .i64 M.u,.int .i64 M.x,.int .i64 M.t,.int .i64 M.n]
 | 5=>q=.int .i64 c
 | 6=>q=.agg #[.int .i64 M.r,.int .i64 M.s,.slice La.a La.n La.c]
 | _=>True
def c4S (M:Md)(E L N O La:SL)(b1 b2 b3 b4 B:Nat)(w00:World)(l:Nat→Bool)(w:World):Prop:=Below B w00 w∧B≤w.heap.size∧Blk 27 w b1 #[.int .i64 M.d,.int .i64 M.h,.int .i64 M.l,.int .i64 M.v,.int .i64 M.u,.int .i64 M.x,.int .i64 M.t,.int .i64 M.n,.slice E.a E.n E.c,.slice L.a L.n L.c,.slice N.a N.n N.c,.slice O.a O.n O.c]∧Blk 30 w b2 #[.int .i64 M.r,.int .i64 M.s,.slice La.a La.n La.c]∧Blk 27 w b3 (cond (l 7) #[.int .i64 M.d,.int .i64 M.h,.int .i64 M.l,.int .i64 M.v,.int .i64 M.u,.int .i64 M.x,.int .i64 M.t,.int .i64 M.n,.slice E.a E.n E.c,.slice L.a L.n L.c,.slice N.a N.n N.c,.slice O.a O.n O.c] #[.int .i64 0,.int .i64 0,.int .i64 0,.int .i64 0,.int .i64 0,.int .i64 0,.int .i64 0,.int .i64 0,.slice none 0 0,.slice none 0 0,.slice none 0 0,.slice none 0 0])∧Blk 30 w b4 (cond (l 8) #[.int .i64 M.r,.int .i64 M.s,.slice La.a La.n La.c] #[.int .i64 0,.int .i64 0,.slice none 0 0])
theorem c4_region {id:Nat}{ops:Array Oper}{Q:Exit→Act→World→Prop}{a0:Act}{w0:World}(M:Md)(E L N O La:SL)(b1 b2 b3 b4:Nat)(c:Int)(B:Nat)(w00:World)(hB1:B≤b3)(hB2:B≤b4)(n13:b1≠b3)
  (hlow:lowB ops=true) (hsz:ops.size=9)
  (o0:OpIn ops 0 (some 15) (.load 27 (.tmp 2)) none []) (o1:OpIn ops 1 (some 16) (.load 30 (.tmp 3)) none []) (o2:OpIn ops 2 (some 17) (.load 30 (.tmp 3)) none []) (o3:OpIn ops 3 (some 18) (.fieldAddr 27 (.tmp 2) 0) none []) (o4:OpIn ops 4 (some 19) (.load 23 (.tmp 18)) none [3]) (o5:OpIn ops 5 (some 20) (.call { callee:=.value (.func 55),args:=#[.tmp 17,.tmp 19],argTypes:=#[30,23] }) none [2,4]) (o6:OpIn ops 6 (some 21) (.call { callee:=.value (.func 54),args:=#[.tmp 16,.tmp 20],argTypes:=#[30,35] }) none [1,5]) (o7:OpIn ops 7 none (.store 27 (.tmp 4) (.tmp 15)) none [0]) (o8:OpIn ops 8 none (.store 30 (.tmp 5) (.tmp 21)) none [6])
  (u2:a0.tmps.getD 2 undef=.pointer (some ⟨b1,0,none⟩)) (u3:a0.tmps.getD 3 undef=.pointer (some ⟨b2,0,none⟩)) (u4:a0.tmps.getD 4 undef=.pointer (some ⟨b3,0,none⟩)) (u5:a0.tmps.getD 5 undef=.pointer (some ⟨b4,0,none⟩)) (n24:b2≠b4)
  (hS:c4S M E L N O La b1 b2 b3 b4 B w00 (fun _=>false) w0.drew)
  (x5:∀ w,Below B w00 w→Calls Tryz.prog 55 #[.agg #[.int .i64 M.r,.int .i64 M.s,.slice La.a La.n La.c],.agg #[.int .i64 M.d,.int .i64 M.h,.int .i64 M.l,.int .i64 M.v,.int .i64 M.u,.int .i64 M.x,.int .i64 M.t,.int .i64 M.n]] w fun e w'=>e=.returned (.int .i64 c)∧Below w.heap.size w w')
  (x6:∀ w,Calls Tryz.prog 54 #[.agg #[.int .i64 M.r,.int .i64 M.s,.slice La.a La.n La.c],.int .i64 c] w fun e w'=>e=.returned (.agg #[.int .i64 M.r,.int .i64 M.s,.slice La.a La.n La.c])∧Below w.heap.size w w')
  (hs:22≤a0.tmps.size)
  (fin:∀ a w,a.tmps.size=a0.tmps.size→a.defers=a0.defers→(∀ s,(∀ i,i<9→c4D i≠some s)→a.tmps.getD s undef=a0.tmps.getD s undef)→Below B w00 w→Blk 27 w b3 #[.int .i64 M.d,.int .i64 M.h,.int .i64 M.l,.int .i64 M.v,.int .i64 M.u,.int .i64 M.x,.int .i64 M.t,.int .i64 M.n,.slice E.a E.n E.c,.slice L.a L.n L.c,.slice N.a N.n N.c,.slice O.a O.n O.c]→Blk 30 w b4 #[.int .i64 M.r,.int .i64 M.s,.slice La.a La.n La.c]→Q .normal a w):(Code.region id ops true).wp Tryz.prog Q a0 w0:=by
 have r55:∀ args w,(callFunc 55 args).run Tryz.prog w=.ok (.enter 55 args) w:=eNo Tryz.func55 (by kernel_rfl) rfl
 have r54:∀ args w,(callFunc 54 args).run Tryz.prog w=.ok (.enter 54 args) w:=eNo Tryz.func54 (by kernel_rfl) rfl
 refine wRi (by kernel_rfl) hlow (Inv 9 c4D a0 (fun l _ w=>c4S M E L N O La b1 b2 b3 b4 B w00 l w) (fun _ j q _=>c4F M E L N O La b1 b2 b3 b4 c j q)) (Inv.start hS) ?_ ?_
 ·intro l i o a w ho hl hcl hdep hI
  have hi:i<9:=by rw[←hsz];exact (Array.getElem?_eq_some_iff.1 ho).1
  have ev:∀ (s:Nat),a.eval (.tmp s)=a.tmps.getD s undef:=fun _=>rfl
  have evf:∀ f,a.eval (.func f)=.func (.func f) #[] #[]:=fun _=>rfl
  have inj:∀ d,c4D i=some d→∀ j d',j<9→c4D j=some d'→j≠i→d'≠d:=fun d hd j d' hj hd' hne e=>hne (c4D_inj j hj i hi (by rw[hd',hd,e]) (by rw[hd'];simp))
  have kp:∀ s,(∀ i,i<9→c4D i≠some s)→a.tmps.getD s undef=a0.tmps.getD s undef:=hI.kept
  obtain⟨hw,hsz',k1,k2,k3,k4⟩:=hI.world
  have oth:∀ j,j≠i→(l j || j==i)=l j:=fun j hj=>by rw[show (j==i)=false by simp[hj],Bool.or_false]
  have sam:(l i || i==i)=true:=by simp
  have U2:a.tmps.getD 2 undef=.pointer (some ⟨b1,0,none⟩):=(kp 2 (by decide)).trans u2
  have U3:a.tmps.getD 3 undef=.pointer (some ⟨b2,0,none⟩):=(kp 3 (by decide)).trans u3
  have U4:a.tmps.getD 4 undef=.pointer (some ⟨b3,0,none⟩):=(kp 4 (by decide)).trans u4
  have U5:a.tmps.getD 5 undef=.pointer (some ⟨b4,0,none⟩):=(kp 5 (by decide)).trans u5
  have go:∀ {d:Nat}{v:Value}{w':World},c4D i=some d→i≠7∧i≠8→Below w.heap.size w w'→c4F M E L N O La b1 b2 b3 b4 c i v→Inv 9 c4D a0 (fun l _ w=>c4S M E L N O La b1 b2 b3 b4 B w00 l w) (fun _ j q _=>c4F M E L N O La b1 b2 b3 b4 c j q) (fun j=>l j || j==i) (a.put (some d) v) w':=by
   intro d v w' hD hne hb hF
   refine hI.put hi hD (Nat.lt_of_lt_of_le (c4D_lt i hi d hD) hs) (inj d hD) ⟨hw.trans (hb.mono hsz'),Nat.le_trans hsz' hb.size,k1.kept hb,k2.kept hb,?_,?_⟩ hF (fun j u _ _ _ hf=>hf)
   ·dsimp only
    rw[oth 7 (fun e=>hne.1 e.symm)]
    exact k3.kept hb
   ·dsimp only
    rw[oth 8 (fun e=>hne.2 e.symm)]
    exact k4.kept hb
  rcases (show i=0∨i=1∨i=2∨i=3∨i=4∨i=5∨i=6∨i=7∨i=8 by omega) with rfl|rfl|rfl|rfl|rfl|rfl|rfl|rfl|rfl
  ·obtain⟨o',e1,e2,e3,e4,e5⟩:=o0
   obtain rfl:=sOp ho e1
   have dp:=dPo e5 hdep
   exact wVa (v:=.agg #[.int .i64 M.d,.int .i64 M.h,.int .i64 M.l,.int .i64 M.v,.int .i64 M.u,.int .i64 M.x,.int .i64 M.t,.int .i64 M.n,.slice E.a E.n E.c,.slice L.a L.n L.c,.slice N.a N.n N.c,.slice O.a O.n O.c]) (w':=w) ho e4 (by simp[execOp,e3,ev,U2,run_load27 k1]) (by rw[e2];exact go rfl (by decide) (Below.refl _ _) rfl)
  ·obtain⟨o',e1,e2,e3,e4,e5⟩:=o1
   obtain rfl:=sOp ho e1
   have dp:=dPo e5 hdep
   exact wVa (v:=.agg #[.int .i64 M.r,.int .i64 M.s,.slice La.a La.n La.c]) (w':=w) ho e4 (by simp[execOp,e3,ev,U3,rL3 k2]) (by rw[e2];exact go rfl (by decide) (Below.refl _ _) rfl)
  ·obtain⟨o',e1,e2,e3,e4,e5⟩:=o2
   obtain rfl:=sOp ho e1
   have dp:=dPo e5 hdep
   exact wVa (v:=.agg #[.int .i64 M.r,.int .i64 M.s,.slice La.a La.n La.c]) (w':=w) ho e4 (by simp[execOp,e3,ev,U3,rL3 k2]) (by rw[e2];exact go rfl (by decide) (Below.refl _ _) rfl)
  ·obtain⟨o',e1,e2,e3,e4,e5⟩:=o3
   obtain rfl:=sOp ho e1
   have dp:=dPo e5 hdep
   exact wVa (v:=.pointer (some ⟨b1,0,none⟩)) (w':=w) ho e4 (by simp[execOp,e3,ev,U2,run_field27 b1 0 0 (by omega)]) (by rw[e2];exact go rfl (by decide) (Below.refl _ _) rfl)
  ·obtain⟨o',e1,e2,e3,e4,e5⟩:=o4
   obtain rfl:=sOp ho e1
   have dp:=dPo e5 hdep
   have V3:a.tmps.getD 18 undef=.pointer (some ⟨b1,0,none⟩):=hI.val 3 18 (by decide) rfl (dp 3 (by decide))
   exact wVa (v:=.agg #[.int .i64 M.d,.int .i64 M.h,.int .i64 M.l,.int .i64 M.v,.int .i64 M.u,.int .i64 M.x,.int .i64 M.t,.int .i64 M.n]) (w':=w) ho e4 (by simp[execOp,e3,ev,V3,run_cfg12 k1]) (by rw[e2];exact go rfl (by decide) (Below.refl _ _) rfl)
  ·obtain⟨o',e1,e2,e3,e4,e5⟩:=o5
   obtain rfl:=sOp ho e1
   have dp:=dPo e5 hdep
   have V2:a.tmps.getD 17 undef=.agg #[.int .i64 M.r,.int .i64 M.s,.slice La.a La.n La.c]:=hI.val 2 17 (by decide) rfl (dp 2 (by decide))
   have V4:a.tmps.getD 19 undef=.agg #[.int .i64 M.d,.int .i64 M.h,.int .i64 M.l,.int .i64 M.v,.int .i64 M.u,.int .i64 M.x,.int .i64 M.t,.int .i64 M.n]:=hI.val 4 19 (by decide) rfl (dp 4 (by decide))
   refine wCa (f:=55) (args:=#[.agg #[.int .i64 M.r,.int .i64 M.s,.slice La.a La.n La.c],.agg #[.int .i64 M.d,.int .i64 M.h,.int .i64 M.l,.int .i64 M.v,.int .i64 M.u,.int .i64 M.x,.int .i64 M.t,.int .i64 M.n]]) ho e4 (by simp[execOp,e3,resolve,invoke,Deferred.ofValue,r55,ev,evf,V2,V4]) ((x5 w hw).mono ?_)
   rintro e W' ⟨rfl,hb⟩
   refine⟨_,rfl,?_⟩
   rw[e2]
   exact go rfl (by decide) hb rfl
  ·obtain⟨o',e1,e2,e3,e4,e5⟩:=o6
   obtain rfl:=sOp ho e1
   have dp:=dPo e5 hdep
   have V1:a.tmps.getD 16 undef=.agg #[.int .i64 M.r,.int .i64 M.s,.slice La.a La.n La.c]:=hI.val 1 16 (by decide) rfl (dp 1 (by decide))
   have V5:a.tmps.getD 20 undef=.int .i64 c:=hI.val 5 20 (by decide) rfl (dp 5 (by decide))
   refine wCa (f:=54) (args:=#[.agg #[.int .i64 M.r,.int .i64 M.s,.slice La.a La.n La.c],.int .i64 c]) ho e4 (by simp[execOp,e3,resolve,invoke,Deferred.ofValue,r54,ev,evf,V1,V5]) ((x6 w).mono ?_)
   rintro e W' ⟨rfl,hb⟩
   refine⟨_,rfl,?_⟩
   rw[e2]
   exact go rfl (by decide) hb rfl
  ·obtain⟨o',e1,e2,e3,e4,e5⟩:=o7
   obtain rfl:=sOp ho e1
   have dp:=dPo e5 hdep
   have V0:a.tmps.getD 15 undef=.agg #[.int .i64 M.d,.int .i64 M.h,.int .i64 M.l,.int .i64 M.v,.int .i64 M.u,.int .i64 M.x,.int .i64 M.t,.int .i64 M.n,.slice E.a E.n E.c,.slice L.a L.n L.c,.slice N.a N.n N.c,.slice O.a O.n O.c]:=hI.val 0 15 (by decide) rfl (dp 0 (by decide))
   rw[hl] at k3
   obtain⟨w',r',q',on⟩:=run_store27s k3 M.d M.h M.l M.v M.u M.x M.t M.n E L N O
   refine wSk (w':=w') ho e4 (by simp[execOp,e3,ev,U4,V0,r']) ?_
   rw[e2]
   refine hI.none_ rfl ⟨Only.below hw hB1 hsz' on,Nat.le_trans hsz' on.size,k1.only on n13,k2.only on (k2.apart k3 (by decide)),?_,?_⟩ (fun j u _ _ _ hf=>hf)
   ·dsimp only
    rw[sam]
    exact q'
   ·dsimp only
    rw[oth 8 (by decide)]
    exact k4.only on (k4.apart k3 (by decide))
  ·obtain⟨o',e1,e2,e3,e4,e5⟩:=o8
   obtain rfl:=sOp ho e1
   have dp:=dPo e5 hdep
   have V6:a.tmps.getD 21 undef=.agg #[.int .i64 M.r,.int .i64 M.s,.slice La.a La.n La.c]:=hI.val 6 21 (by decide) rfl (dp 6 (by decide))
   rw[hl] at k4
   obtain⟨w',r',q',on⟩:=run_store30s k4 M.r M.s La
   refine wSk (w':=w') ho e4 (by simp[execOp,e3,ev,U5,V6,r']) ?_
   rw[e2]
   refine hI.none_ rfl ⟨Only.below hw hB2 hsz' on,Nat.le_trans hsz' on.size,k1.only on (k1.apart k4 (by decide)),k2.only on n24,?_,?_⟩ (fun j u _ _ _ hf=>hf)
   ·dsimp only
    rw[oth 7 (by decide)]
    exact k3.only on (k3.apart k4 (by decide))
   ·dsimp only
    rw[sam]
    exact q'
 ·intro l a w hall hI
  have all:∀ j,j<9→l j=true:=fun j hj=>hall j (by rw[hsz];exact hj)
  obtain⟨hw,-,-,-,k3,k4⟩:=hI.world
  rw[all 7 (by decide)] at k3
  rw[all 8 (by decide)] at k4
  exact fin a w hI.size hI.defers hI.kept hw k3 k4
def c5D (i:Nat):Option Nat:=match i with|0=>some 15|1=>some 16|2=>some 17|3=>some 18|4=>some 19|5=>some 20|6=>some 21|_=>none
theorem c5D_inj:∀ i,i<9→∀ j,j<9→c5D i=c5D j→c5D i≠none→i=j:=by decide
theorem c5D_lt:∀ i,i<9→∀ d,c5D i=some d→d<22:=by
 intro i hi d h
 have:∀ i,i<9→(c5D i).all (fun d=>decide (d<22))=true:=by decide
 have:=this i hi
 rw[h] at this
 simpa using this
def c5F (M:Md)(E L N O La:SL)(b1 b2 b3 b4:Nat)(c:Int)(j:Nat)(q:Value):Prop:=match j with
 | 0=>q=.agg #[.int .i64 M.d,.int .i64 M.h,.int .i64 M.l,.int .i64 M.v,.int .i64 M.u,.int .i64 M.x,.int .i64 M.t,.int .i64 M.n,.slice E.a E.n E.c,.slice L.a L.n L.c,.slice N.a N.n N.c,.slice O.a O.n O.c]
 | 1=>q=.agg #[.int .i64 M.r,.int .i64 M.s,.slice La.a La.n La.c]
 | 2=>q=.agg #[.int .i64 M.r,.int .i64 M.s,.slice La.a La.n La.c]
 | 3=>q=.pointer (some ⟨b1,0,none⟩)
 | 4=>q=.agg #[.int .i64 M.d,.int .i64 M.h,.int .i64 M.l,.int .i64 M.v,.int .i64 M.u,.int .i64 M.x,.int .i64 M.t,.int .i64 M.n]
 | 5=>q=.int .i64 c
 | 6=>False
 | _=>True
def c5S (M:Md)(E L N O La:SL)(b1 b2 b3 b4 B:Nat)(w00:World)(l:Nat→Bool)(w:World):Prop:=Below B w00 w∧B≤w.heap.size∧Blk 27 w b1 #[.int .i64 M.d,.int .i64 M.h,.int .i64 M.l,.int .i64 M.v,.int .i64 M.u,.int .i64 M.x,.int .i64 M.t,.int .i64 M.n,.slice E.a E.n E.c,.slice L.a L.n L.c,.slice N.a N.n N.c,.slice O.a O.n O.c]∧Blk 30 w b2 #[.int .i64 M.r,.int .i64 M.s,.slice La.a La.n La.c]∧Blk 27 w b3 (cond (l 7) #[.int .i64 M.d,.int .i64 M.h,.int .i64 M.l,.int .i64 M.v,.int .i64 M.u,.int .i64 M.x,.int .i64 M.t,.int .i64 M.n,.slice E.a E.n E.c,.slice L.a L.n L.c,.slice N.a N.n N.c,.slice O.a O.n O.c] #[.int .i64 0,.int .i64 0,.int .i64 0,.int .i64 0,.int .i64 0,.int .i64 0,.int .i64 0,.int .i64 0,.slice none 0 0,.slice none 0 0,.slice none 0 0,.slice none 0 0])∧Blk 30 w b4 (cond (l 8) #[.int .i64 M.r,.int .i64 M.s,.slice La.a La.n La.c] #[.int .i64 0,.int .i64 0,.slice none 0 0])
theorem c5_region {id:Nat}{ops:Array Oper}{Q:Exit→Act→World→Prop}{a0:Act}{w0:World}(M:Md)(E L N O La:SL)(b1 b2 b3 b4:Nat)(c:Int)(B:Nat)(w00:World)(ch:List PanicEntry)(hB1:B≤b3)(hB2:B≤b4)(n13:b1≠b3)
  (hlow:lowB ops=true) (hsz:ops.size=9)
  (o0:OpIn ops 0 (some 15) (.load 27 (.tmp 2)) none []) (o1:OpIn ops 1 (some 16) (.load 30 (.tmp 3)) none []) (o2:OpIn ops 2 (some 17) (.load 30 (.tmp 3)) none []) (o3:OpIn ops 3 (some 18) (.fieldAddr 27 (.tmp 2) 0) none []) (o4:OpIn ops 4 (some 19) (.load 23 (.tmp 18)) none [3]) (o5:OpIn ops 5 (some 20) (.call { callee:=.value (.func 55),args:=#[.tmp 17,.tmp 19],argTypes:=#[30,23] }) none [2,4]) (o6:OpIn ops 6 (some 21) (.call { callee:=.value (.func 54),args:=#[.tmp 16,.tmp 20],argTypes:=#[30,35] }) none [1,5]) (o7:OpIn ops 7 none (.store 27 (.tmp 4) (.tmp 15)) none [0]) (o8:OpIn ops 8 none (.store 30 (.tmp 5) (.tmp 21)) none [6])
  (u2:a0.tmps.getD 2 undef=.pointer (some ⟨b1,0,none⟩)) (u3:a0.tmps.getD 3 undef=.pointer (some ⟨b2,0,none⟩)) (u4:a0.tmps.getD 4 undef=.pointer (some ⟨b3,0,none⟩)) (u5:a0.tmps.getD 5 undef=.pointer (some ⟨b4,0,none⟩)) (n24:b2≠b4)
  (hS:c5S M E L N O La b1 b2 b3 b4 B w00 (fun _=>false) w0.drew)
  (x5:∀ w,Below B w00 w→Calls Tryz.prog 55 #[.agg #[.int .i64 M.r,.int .i64 M.s,.slice La.a La.n La.c],.agg #[.int .i64 M.d,.int .i64 M.h,.int .i64 M.l,.int .i64 M.v,.int .i64 M.u,.int .i64 M.x,.int .i64 M.t,.int .i64 M.n]] w fun e w'=>e=.returned (.int .i64 c)∧Below w.heap.size w w')
  (x6:∀ w,Calls Tryz.prog 54 #[.agg #[.int .i64 M.r,.int .i64 M.s,.slice La.a La.n La.c],.int .i64 c] w fun e w'=>e=.panicked ch∧Below w.heap.size w w')
  (hs:22≤a0.tmps.size)
  (pan:∀ a w,a.defers=a0.defers→Below B w00 w→Q (.panic ch) a w):(Code.region id ops true).wp Tryz.prog Q a0 w0:=by
 have r55:∀ args w,(callFunc 55 args).run Tryz.prog w=.ok (.enter 55 args) w:=eNo Tryz.func55 (by kernel_rfl) rfl
 have r54:∀ args w,(callFunc 54 args).run Tryz.prog w=.ok (.enter 54 args) w:=eNo Tryz.func54 (by kernel_rfl) rfl
 refine wRi (by kernel_rfl) hlow (Inv 9 c5D a0 (fun l _ w=>c5S M E L N O La b1 b2 b3 b4 B w00 l w) (fun _ j q _=>c5F M E L N O La b1 b2 b3 b4 c j q)) (Inv.start hS) ?_ ?_
 ·intro l i o a w ho hl hcl hdep hI
  have hi:i<9:=by rw[←hsz];exact (Array.getElem?_eq_some_iff.1 ho).1
  have ev:∀ (s:Nat),a.eval (.tmp s)=a.tmps.getD s undef:=fun _=>rfl
  have evf:∀ f,a.eval (.func f)=.func (.func f) #[] #[]:=fun _=>rfl
  have inj:∀ d,c5D i=some d→∀ j d',j<9→c5D j=some d'→j≠i→d'≠d:=fun d hd j d' hj hd' hne e=>hne (c5D_inj j hj i hi (by rw[hd',hd,e]) (by rw[hd'];simp))
  have kp:∀ s,(∀ i,i<9→c5D i≠some s)→a.tmps.getD s undef=a0.tmps.getD s undef:=hI.kept
  obtain⟨hw,hsz',k1,k2,k3,k4⟩:=hI.world
  have oth:∀ j,j≠i→(l j || j==i)=l j:=fun j hj=>by rw[show (j==i)=false by simp[hj],Bool.or_false]
  have sam:(l i || i==i)=true:=by simp
  have U2:a.tmps.getD 2 undef=.pointer (some ⟨b1,0,none⟩):=(kp 2 (by decide)).trans u2
  have U3:a.tmps.getD 3 undef=.pointer (some ⟨b2,0,none⟩):=(kp 3 (by decide)).trans u3
  have U4:a.tmps.getD 4 undef=.pointer (some ⟨b3,0,none⟩):=(kp 4 (by decide)).trans u4
  have U5:a.tmps.getD 5 undef=.pointer (some ⟨b4,0,none⟩):=(kp 5 (by decide)).trans u5
  have go:∀ {d:Nat}{v:Value}{w':World},c5D i=some d→i≠7∧i≠8→Below w.heap.size w w'→c5F M E L N O La b1 b2 b3 b4 c i v→Inv 9 c5D a0 (fun l _ w=>c5S M E L N O La b1 b2 b3 b4 B w00 l w) (fun _ j q _=>c5F M E L N O La b1 b2 b3 b4 c j q) (fun j=>l j || j==i) (a.put (some d) v) w':=by
   intro d v w' hD hne hb hF
   refine hI.put hi hD (Nat.lt_of_lt_of_le (c5D_lt i hi d hD) hs) (inj d hD) ⟨hw.trans (hb.mono hsz'),Nat.le_trans hsz' hb.size,k1.kept hb,k2.kept hb,?_,?_⟩ hF (fun j u _ _ _ hf=>hf)
   ·dsimp only
    rw[oth 7 (fun e=>hne.1 e.symm)]
    exact k3.kept hb
   ·dsimp only
    rw[oth 8 (fun e=>hne.2 e.symm)]
    exact k4.kept hb
  rcases (show i=0∨i=1∨i=2∨i=3∨i=4∨i=5∨i=6∨i=7∨i=8 by omega) with rfl|rfl|rfl|rfl|rfl|rfl|rfl|rfl|rfl
  ·obtain⟨o',e1,e2,e3,e4,e5⟩:=o0
   obtain rfl:=sOp ho e1
   have dp:=dPo e5 hdep
   exact wVa (v:=.agg #[.int .i64 M.d,.int .i64 M.h,.int .i64 M.l,.int .i64 M.v,.int .i64 M.u,.int .i64 M.x,.int .i64 M.t,.int .i64 M.n,.slice E.a E.n E.c,.slice L.a L.n L.c,.slice N.a N.n N.c,.slice O.a O.n O.c]) (w':=w) ho e4 (by simp[execOp,e3,ev,U2,run_load27 k1]) (by rw[e2];exact go rfl (by decide) (Below.refl _ _) rfl)
  ·obtain⟨o',e1,e2,e3,e4,e5⟩:=o1
   obtain rfl:=sOp ho e1
   have dp:=dPo e5 hdep
   exact wVa (v:=.agg #[.int .i64 M.r,.int .i64 M.s,.slice La.a La.n La.c]) (w':=w) ho e4 (by simp[execOp,e3,ev,U3,rL3 k2]) (by rw[e2];exact go rfl (by decide) (Below.refl _ _) rfl)
  ·obtain⟨o',e1,e2,e3,e4,e5⟩:=o2
   obtain rfl:=sOp ho e1
   have dp:=dPo e5 hdep
   exact wVa (v:=.agg #[.int .i64 M.r,.int .i64 M.s,.slice La.a La.n La.c]) (w':=w) ho e4 (by simp[execOp,e3,ev,U3,rL3 k2]) (by rw[e2];exact go rfl (by decide) (Below.refl _ _) rfl)
  ·obtain⟨o',e1,e2,e3,e4,e5⟩:=o3
   obtain rfl:=sOp ho e1
   have dp:=dPo e5 hdep
   exact wVa (v:=.pointer (some ⟨b1,0,none⟩)) (w':=w) ho e4 (by simp[execOp,e3,ev,U2,run_field27 b1 0 0 (by omega)]) (by rw[e2];exact go rfl (by decide) (Below.refl _ _) rfl)
  ·obtain⟨o',e1,e2,e3,e4,e5⟩:=o4
   obtain rfl:=sOp ho e1
   have dp:=dPo e5 hdep
   have V3:a.tmps.getD 18 undef=.pointer (some ⟨b1,0,none⟩):=hI.val 3 18 (by decide) rfl (dp 3 (by decide))
   exact wVa (v:=.agg #[.int .i64 M.d,.int .i64 M.h,.int .i64 M.l,.int .i64 M.v,.int .i64 M.u,.int .i64 M.x,.int .i64 M.t,.int .i64 M.n]) (w':=w) ho e4 (by simp[execOp,e3,ev,V3,run_cfg12 k1]) (by rw[e2];exact go rfl (by decide) (Below.refl _ _) rfl)
  ·obtain⟨o',e1,e2,e3,e4,e5⟩:=o5
   obtain rfl:=sOp ho e1
   have dp:=dPo e5 hdep
   have V2:a.tmps.getD 17 undef=.agg #[.int .i64 M.r,.int .i64 M.s,.slice La.a La.n La.c]:=hI.val 2 17 (by decide) rfl (dp 2 (by decide))
   have V4:a.tmps.getD 19 undef=.agg #[.int .i64 M.d,.int .i64 M.h,.int .i64 M.l,.int .i64 M.v,.int .i64 M.u,.int .i64 M.x,.int .i64 M.t,.int .i64 M.n]:=hI.val 4 19 (by decide) rfl (dp 4 (by decide))
   refine wCa (f:=55) (args:=#[.agg #[.int .i64 M.r,.int .i64 M.s,.slice La.a La.n La.c],.agg #[.int .i64 M.d,.int .i64 M.h,.int .i64 M.l,.int .i64 M.v,.int .i64 M.u,.int .i64 M.x,.int .i64 M.t,.int .i64 M.n]]) ho e4 (by simp[execOp,e3,resolve,invoke,Deferred.ofValue,r55,ev,evf,V2,V4]) ((x5 w hw).mono ?_)
   rintro e W' ⟨rfl,hb⟩
   refine⟨_,rfl,?_⟩
   rw[e2]
   exact go rfl (by decide) hb rfl
  ·obtain⟨o',e1,e2,e3,e4,e5⟩:=o6
   obtain rfl:=sOp ho e1
   have dp:=dPo e5 hdep
   have V1:a.tmps.getD 16 undef=.agg #[.int .i64 M.r,.int .i64 M.s,.slice La.a La.n La.c]:=hI.val 1 16 (by decide) rfl (dp 1 (by decide))
   have V5:a.tmps.getD 20 undef=.int .i64 c:=hI.val 5 20 (by decide) rfl (dp 5 (by decide))
   refine wpOp_panic (f:=54) (args:=#[.agg #[.int .i64 M.r,.int .i64 M.s,.slice La.a La.n La.c],.int .i64 c]) ho e4 (by simp[execOp,e3,resolve,invoke,Deferred.ofValue,r54,ev,evf,V1,V5]) ((x6 w).mono ?_)
   rintro e W' ⟨rfl,hb⟩
   exact⟨ch,rfl,pan a W' hI.defers (hw.trans (hb.mono hsz'))⟩
  ·obtain⟨o',e1,e2,e3,e4,e5⟩:=o7
   obtain rfl:=sOp ho e1
   have dp:=dPo e5 hdep
   have V0:a.tmps.getD 15 undef=.agg #[.int .i64 M.d,.int .i64 M.h,.int .i64 M.l,.int .i64 M.v,.int .i64 M.u,.int .i64 M.x,.int .i64 M.t,.int .i64 M.n,.slice E.a E.n E.c,.slice L.a L.n L.c,.slice N.a N.n N.c,.slice O.a O.n O.c]:=hI.val 0 15 (by decide) rfl (dp 0 (by decide))
   rw[hl] at k3
   obtain⟨w',r',q',on⟩:=run_store27s k3 M.d M.h M.l M.v M.u M.x M.t M.n E L N O
   refine wSk (w':=w') ho e4 (by simp[execOp,e3,ev,U4,V0,r']) ?_
   rw[e2]
   refine hI.none_ rfl ⟨Only.below hw hB1 hsz' on,Nat.le_trans hsz' on.size,k1.only on n13,k2.only on (k2.apart k3 (by decide)),?_,?_⟩ (fun j u _ _ _ hf=>hf)
   ·dsimp only
    rw[sam]
    exact q'
   ·dsimp only
    rw[oth 8 (by decide)]
    exact k4.only on (k4.apart k3 (by decide))
  ·obtain⟨o',e1,e2,e3,e4,e5⟩:=o8
   obtain rfl:=sOp ho e1
   have dp:=dPo e5 hdep
   exact ((hI.val 6 21 (by decide) rfl (dp 6 (by decide))):False).elim
 ·intro l a w hall hI
  have all:∀ j,j<9→l j=true:=fun j hj=>hall j (by rw[hsz];exact hj)
  exact ((hI.val 6 21 (by decide) rfl (all 6 (by decide))):False).elim
section
def ModIn (lo hi:Nat)(w:World)(E L N O:SL)(Y U D:Nat→Nat→SL)(m:ModV):Prop :=
 ∀ w',(∀ p v,w.cell? p=some v→lo≤p.block→p.block<hi→w'.cell? p=some v)→ModAt w' E L N O Y U D m
theorem NewM.within {base:Nat}{w:World}{E L N O:SL}{Y U D:Nat→Nat→SL}{m:ModV}(h:NewM base w E L N O Y U D m):ModIn base w.heap.size w E L N O Y U D m :=
 fun w' hc=>h w' fun p v hp hle=>hc p v hp hle (World.block_lt_of_cell? w _ hp)
theorem ModIn.at {lo hi:Nat}{w:World}{E L N O:SL}{Y U D:Nat→Nat→SL}{m:ModV}(h:ModIn lo hi w E L N O Y U D m):ModAt w E L N O Y U D m:=h w fun _ _ hp _ _=>hp
theorem ModIn.below {lo hi:Nat}{w w':World}{E L N O:SL}{Y U D:Nat→Nat→SL}{m:ModV}(h:ModIn lo hi w E L N O Y U D m)(hb:Below w.heap.size w w'):ModIn lo hi w' E L N O Y U D m :=
 fun w'' hc=>h w'' fun p v hp h1 h2=>hc p v ((hb.cell (World.block_lt_of_cell? w _ hp)).trans hp) h1 h2
theorem ModIn.only {lo hi b : Nat} {w w' : World} {E L N O : SL} {Y U D : Nat → Nat → SL} {m : ModV} (h : ModIn lo hi w E L N O Y U D m) (o : Only b w w') (hb : b < lo ∨ hi ≤ b) : ModIn lo hi w' E L N O Y U D m :=
  fun w'' hc => h w'' fun p v hp h1 h2 => hc p v (o.cell hp (fun e => by have e' : p.block = b := by simpa using e
                                                                         omega)) h1 h2
def AdIn (lo hi:Nat)(w:World)(L:SL)(Y:Nat→Nat→SL)(m:AdV):Prop :=
 ∀ w',(∀ p v,w.cell? p=some v→lo≤p.block→p.block<hi→w'.cell? p=some v)→AdAt w' L Y m
theorem NewA.within {base:Nat}{w:World}{L:SL}{Y:Nat→Nat→SL}{m:AdV}(h:NewA base w L Y m):AdIn base w.heap.size w L Y m :=
 fun w' hc=>h w' fun p v hp hle=>hc p v hp hle (World.block_lt_of_cell? w _ hp)
theorem AdIn.at {lo hi:Nat}{w:World}{L:SL}{Y:Nat→Nat→SL}{m:AdV}(h:AdIn lo hi w L Y m):AdAt w L Y m:=h w fun _ _ hp _ _=>hp
theorem AdIn.below {lo hi:Nat}{w w':World}{L:SL}{Y:Nat→Nat→SL}{m:AdV}(h:AdIn lo hi w L Y m)(hb:Below w.heap.size w w'):AdIn lo hi w' L Y m :=
 fun w'' hc=>h w'' fun p v hp h1 h2=>hc p v ((hb.cell (World.block_lt_of_cell? w _ hp)).trans hp) h1 h2
theorem AdIn.only {lo hi b : Nat} {w w' : World} {L : SL} {Y : Nat → Nat → SL} {m : AdV} (h : AdIn lo hi w L Y m) (o : Only b w w') (hb : b < lo ∨ hi ≤ b) : AdIn lo hi w' L Y m :=
  fun w'' hc => h w'' fun p v hp h1 h2 => hc p v (o.cell hp (fun e => by have e' : p.block = b := by simpa using e
                                                                         omega)) h1 h2
def CMd (M:Md)(g:Nat)(c p q s:Bool)(v v1 v2:Value)(w:World):Prop :=
 c=true→∃ E L N O:SL,∃ (Y U D:Nat→Nat→SL) (lo hi:Nat),v=.agg #[.int .i64 M.d,.int .i64 M.h,.int .i64 M.l,.int .i64 M.v,.int .i64 M.u,.int .i64 M.x,.int .i64 M.t,.int .i64 M.n,.slice E.a E.n E.c,.slice L.a L.n L.c,.slice N.a N.n N.c,.slice O.a O.n O.c]∧g≤lo∧hi≤w.heap.size∧ModIn lo hi w E L N O Y U D M.m∧(p=true→∀ b,v1=.pointer (some ⟨b,0,none⟩)→b<lo∨hi≤b)∧(q=true→∀ b,v2=.pointer (some ⟨b,0,none⟩)→b<lo∨hi≤b)∧(s=true→∃ b,v1=.pointer (some ⟨b,0,none⟩)∧g≤b∧Blk 27 w b #[.int .i64 M.d,.int .i64 M.h,.int .i64 M.l,.int .i64 M.v,.int .i64 M.u,.int .i64 M.x,.int .i64 M.t,.int .i64 M.n,.slice E.a E.n E.c,.slice L.a L.n L.c,.slice N.a N.n N.c,.slice O.a O.n O.c])
def CAd (M:Md)(g:Nat)(c p q s:Bool)(v v1 v2:Value)(w:World):Prop :=
 c=true→∃ (La:SL) (Ya:Nat→Nat→SL) (lo hi:Nat),v=.agg #[.int .i64 M.r,.int .i64 M.s,.slice La.a La.n La.c]∧g≤lo∧hi≤w.heap.size∧AdIn lo hi w La Ya M.a∧(p=true→∀ b,v1=.pointer (some ⟨b,0,none⟩)→b<lo∨hi≤b)∧(q=true→∀ b,v2=.pointer (some ⟨b,0,none⟩)→b<lo∨hi≤b)∧(s=true→∃ b,v2=.pointer (some ⟨b,0,none⟩)∧g≤b∧Blk 30 w b #[.int .i64 M.r,.int .i64 M.s,.slice La.a La.n La.c])
section
variable {M:Md}{g:Nat}{c p q s:Bool}{v v1 v2:Value}{w w':World}
theorem CMd.below (h:CMd M g c p q s v v1 v2 w)(hb:Below w.heap.size w w'):CMd M g c p q s v v1 v2 w':=fun hc=>by
 obtain⟨E,L,N,O,Y,U,D,lo,hi,h1,h2,h3,h4,h5,h6,h7⟩:=h hc
 exact⟨E,L,N,O,Y,U,D,lo,hi,h1,h2,Nat.le_trans h3 hb.size,h4.below hb,h5,h6,fun e=>(h7 e).elim fun b hb'=>⟨b,hb'.1,hb'.2.1,hb'.2.2.kept hb⟩⟩
theorem CAd.below (h:CAd M g c p q s v v1 v2 w)(hb:Below w.heap.size w w'):CAd M g c p q s v v1 v2 w':=fun hc=>by
 obtain⟨La,Ya,lo,hi,h1,h2,h3,h4,h5,h6,h7⟩:=h hc
 exact⟨La,Ya,lo,hi,h1,h2,Nat.le_trans h3 hb.size,h4.below hb,h5,h6,fun e=>(h7 e).elim fun b hb'=>⟨b,hb'.1,hb'.2.1,hb'.2.2.kept hb⟩⟩
theorem CMd.lay1 (h:CMd M g c p q false v v1 v2 w)(o:Obj):CMd M g c true q false v (.pointer (some ⟨w.heap.size,0,none⟩)) v2 (w.alloc o):=fun hc=>by
 have hb:=bNw (Below.refl w.heap.size w) o
 obtain⟨E,L,N,O,Y,U,D,lo,hi,h1,h2,h3,h4,h5,h6,h7⟩:=h hc
 exact⟨E,L,N,O,Y,U,D,lo,hi,h1,h2,Nat.le_trans h3 hb.size,h4.below hb,fun _ b e=>by simp at e;omega,h6,fun e=>by cases e⟩
theorem CMd.lay2 (h:CMd M g c p q s v v1 v2 w)(o:Obj):CMd M g c p true s v v1 (.pointer (some ⟨w.heap.size,0,none⟩)) (w.alloc o):=fun hc=>by
 have hb:=bNw (Below.refl w.heap.size w) o
 obtain⟨E,L,N,O,Y,U,D,lo,hi,h1,h2,h3,h4,h5,h6,h7⟩:=h hc
 exact⟨E,L,N,O,Y,U,D,lo,hi,h1,h2,Nat.le_trans h3 hb.size,h4.below hb,h5,fun _ b e=>by simp at e;omega,fun e=>(h7 e).elim fun b hb'=>⟨b,hb'.1,hb'.2.1,hb'.2.2.kept hb⟩⟩
theorem CAd.lay1 (h:CAd M g c p q s v v1 v2 w)(o:Obj):CAd M g c true q s v (.pointer (some ⟨w.heap.size,0,none⟩)) v2 (w.alloc o):=fun hc=>by
 have hb:=bNw (Below.refl w.heap.size w) o
 obtain⟨La,Ya,lo,hi,h1,h2,h3,h4,h5,h6,h7⟩:=h hc
 exact⟨La,Ya,lo,hi,h1,h2,Nat.le_trans h3 hb.size,h4.below hb,fun _ b e=>by simp at e;omega,h6,fun e=>(h7 e).elim fun b hb'=>⟨b,hb'.1,hb'.2.1,hb'.2.2.kept hb⟩⟩
theorem CAd.lay2 (h:CAd M g c p q false v v1 v2 w)(o:Obj):CAd M g c p true false v v1 (.pointer (some ⟨w.heap.size,0,none⟩)) (w.alloc o):=fun hc=>by
 have hb:=bNw (Below.refl w.heap.size w) o
 obtain⟨La,Ya,lo,hi,h1,h2,h3,h4,h5,h6,h7⟩:=h hc
 exact⟨La,Ya,lo,hi,h1,h2,Nat.le_trans h3 hb.size,h4.below hb,h5,fun _ b e=>by simp at e;omega,fun e=>by cases e⟩
theorem CMd.other {b:Nat}{cs:Array Value}(h:CMd M g c p true s v v1 (.pointer (some ⟨b,0,none⟩)) w)(k:Blk 30 w b cs)(o:Only b w w')(hz:w.heap.size≤w'.heap.size):CMd M g c p true s v v1 (.pointer (some ⟨b,0,none⟩)) w':=fun hc=>by
 obtain⟨E,L,N,O,Y,U,D,lo,hi,h1,h2,h3,h4,h5,h6,h7⟩:=h hc
 exact⟨E,L,N,O,Y,U,D,lo,hi,h1,h2,Nat.le_trans h3 hz,h4.only o (h6 rfl b rfl),h5,h6,fun e=>(h7 e).elim fun b2 hb'=>⟨b2,hb'.1,hb'.2.1,hb'.2.2.only o (hb'.2.2.apart k (by decide))⟩⟩
theorem CAd.other {b:Nat}{cs:Array Value}(h:CAd M g c true q s v (.pointer (some ⟨b,0,none⟩)) v2 w)(k:Blk 27 w b cs)(o:Only b w w')(hz:w.heap.size≤w'.heap.size):CAd M g c true q s v (.pointer (some ⟨b,0,none⟩)) v2 w':=fun hc=>by
 obtain⟨La,Ya,lo,hi,h1,h2,h3,h4,h5,h6,h7⟩:=h hc
 exact⟨La,Ya,lo,hi,h1,h2,Nat.le_trans h3 hz,h4.only o (h5 rfl b rfl),h5,h6,fun e=>(h7 e).elim fun b2 hb'=>⟨b2,hb'.1,hb'.2.1,hb'.2.2.only o (hb'.2.2.apart k (by decide))⟩⟩
end
theorem run_alloc27 (w:World):(Instr.alloc 27 true (.tuple #[])).run Tryz.prog w=.ok (.pointer (some ⟨w.heap.size,0,none⟩)) (w.alloc (.cells #[.int .i64 0,.int .i64 0,.int .i64 0,.int .i64 0,.int .i64 0,.int .i64 0,.int .i64 0,.int .i64 0,.slice none 0 0,.slice none 0 0,.slice none 0 0,.slice none 0 0] 27)):=by go_simp
theorem run_alloc30 (w:World):(Instr.alloc 30 true (.tuple #[])).run Tryz.prog w=.ok (.pointer (some ⟨w.heap.size,0,none⟩)) (w.alloc (.cells #[.int .i64 0,.int .i64 0,.slice none 0 0] 30)):=by go_simp
theorem run_store27 {w:World}{b:Nat}(q:Blk 27 w b #[.int .i64 0,.int .i64 0,.int .i64 0,.int .i64 0,.int .i64 0,.int .i64 0,.int .i64 0,.int .i64 0,.slice none 0 0,.slice none 0 0,.slice none 0 0,.slice none 0 0])(M:Md)(E L N O:SL):∃ w',(Instr.storeAt 27 (.pointer (some ⟨b,0,none⟩)) (.agg #[.int .i64 M.d,.int .i64 M.h,.int .i64 M.l,.int .i64 M.v,.int .i64 M.u,.int .i64 M.x,.int .i64 M.t,.int .i64 M.n,.slice E.a E.n E.c,.slice L.a L.n L.c,.slice N.a N.n N.c,.slice O.a O.n O.c])).run Tryz.prog w=.ok () w'∧Blk 27 w' b #[.int .i64 M.d,.int .i64 M.h,.int .i64 M.l,.int .i64 M.v,.int .i64 M.u,.int .i64 M.x,.int .i64 M.t,.int .i64 M.n,.slice E.a E.n E.c,.slice L.a L.n L.c,.slice N.a N.n N.c,.slice O.a O.n O.c]∧Only b w w'∧w'.heap.size=w.heap.size:=by
 obtain⟨c0,c1,c2,c3,c4,c5,c6,c7,c8,c9,c10,c11⟩:=q.c12
 obtain⟨o0,o1,o2,o3,o4,o5,o6,o7,o8,o9,o10,o11⟩:=q.o12
 obtain⟨W2,eW,q2,only,hz⟩:=set12 q (.int .i64 M.d) (.int .i64 M.h) (.int .i64 M.l) (.int .i64 M.v) (.int .i64 M.u) (.int .i64 M.x) (.int .i64 M.t) (.int .i64 M.n) (.slice E.a E.n E.c) (.slice L.a L.n L.c) (.slice N.a N.n N.c) (.slice O.a O.n O.c)
 exact⟨W2,by rw[←eW];go_simp,q2,only,hz⟩
theorem run_store30 {w:World}{b:Nat}(q:Blk 30 w b #[.int .i64 0,.int .i64 0,.slice none 0 0])(M:Md)(La:SL):∃ w',(Instr.storeAt 30 (.pointer (some ⟨b,0,none⟩)) (.agg #[.int .i64 M.r,.int .i64 M.s,.slice La.a La.n La.c])).run Tryz.prog w=.ok () w'∧Blk 30 w' b #[.int .i64 M.r,.int .i64 M.s,.slice La.a La.n La.c]∧Only b w w'∧w'.heap.size=w.heap.size:=by
 obtain⟨c0,c1,c2⟩:=q.c3
 obtain⟨o0,o1,o2,-⟩:=q.o12
 obtain⟨W2,eW,q2,only,hz⟩:=set3 q (.int .i64 M.r) (.int .i64 M.s) (.slice La.a La.n La.c)
 exact⟨W2,by rw[←eW];go_simp,q2,only,hz⟩
end
end Go.Proofs.YthliomlmhfjhnaaGreat
