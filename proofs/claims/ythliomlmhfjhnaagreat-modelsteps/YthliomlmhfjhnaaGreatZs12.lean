/- Texts put together. -/
import Derived.Test.YthliomlmhfjhnaaGreatZs0
import Derived.Test.YthliomlmhfjhnaaGreatZs1
import Derived.Test.YthliomlmhfjhnaaGreatZs4
namespace Go.Proofs.YthliomlmhfjhnaaGreat
set_option maxRecDepth 20000
set_option maxHeartbeats 16000000
open Go.ChangeShapes Go.WideShapes Go.ChangeAt Go.RowKit
set_option linter.unusedVariables false
set_option linter.unusedSimpArgs false
def roD (i:Nat):Option Nat:=match i with|0=>some 36|1=>some 37|2=>some 38|3=>some 39|4=>some 40|5=>some 41|6=>some 42|7=>some 43|8=>some 44|9=>some 45|10=>some 46|11=>some 12|12=>some 13|_=>none
theorem roD_inj:∀ i,i<13→∀ j,j<13→roD i=roD j→roD i≠none→i=j:=by decide
theorem roD_lt:∀ i,i<13→∀ d,roD i=some d→d<131:=by
 intro i hi d h
 have:∀ i,i<13→(roD i).all (fun d=>decide (d<131))=true:=by decide
 have:=this i hi
 rw[h] at this
 simpa using this
def roF (x y:Addr)(n c1 c2 un uc dn dc m xc:Nat)(ua da xa:Option Addr)(hh:Int)(O:List Int)(EE:Int)(i:Nat)(q:Value)(w:World):Prop:=match i with
 | 0=>q=.slice (some x) n c1
 | 1=>q=.pointer (some x)
 | 2=>q=.slice ua un uc
 | 3=>q=.slice (some y) n c2
 | 4=>q=.pointer (some y)
 | 5=>q=.slice da dn dc
 | 6=>q=.int .i64 hh
 | 7=>q=.slice xa m xc
 | 8=>∃ b bn bc,q=.tuple #[.slice b bn bc,.int .i64 EE]∧Reads .i64 w b bn O
 | 9=>∃ b bn bc,q=.slice b bn bc∧Reads .i64 w b bn O
 | 10=>q=.int .i64 EE
 | 11=>∃ b bn bc,q=.slice b bn bc∧Reads .i64 w b bn O
 | 12=>q=.int .i64 EE
 | _=>True
theorem roF_below {x y:Addr}{n c1 c2 un uc dn dc m xc:Nat}{ua da xa:Option Addr}{hh:Int}{O:List Int}{EE:Int}{i:Nat}{q:Value}{w w':World}(h:roF x y n c1 c2 un uc dn dc m xc ua da xa hh O EE i q w)(hb:Below w.heap.size w w'):roF x y n c1 c2 un uc dn dc m xc ua da xa hh O EE i q w':=by
 unfold roF at h ⊢
 split
 ·exact h
 ·exact h
 ·exact h
 ·exact h
 ·exact h
 ·exact h
 ·exact h
 ·exact h
 ·obtain⟨b,bn,bc,h1,h2⟩:=h;exact⟨b,bn,bc,h1,h2.below hb⟩
 ·obtain⟨b,bn,bc,h1,h2⟩:=h;exact⟨b,bn,bc,h1,h2.below hb⟩
 ·exact h
 ·obtain⟨b,bn,bc,h1,h2⟩:=h;exact⟨b,bn,bc,h1,h2.below hb⟩
 ·exact h
 ·trivial
theorem ro_region {id:Nat}{ops:Array Oper}{Q:Exit→Act→World→Prop}{a0:Act}{w0:World}(x y:Addr)(n c1 c2 un uc dn dc m xc:Nat)(ua da xa:Option Addr)(hh:Int)(O:List Int)(EE:Int)(S:World→Prop)(hlow:lowB ops=true)(hsz:ops.size=13)
  (o0:OpIn ops 0 (some 36) (.move (.tmp 1)) none []) (o1:OpIn ops 1 (some 37) (.indexAddr 63 (.tmp 36) (.const (.int .i64 0))) none [0]) (o2:OpIn ops 2 (some 38) (.load 24 (.tmp 37)) none [1]) (o3:OpIn ops 3 (some 39) (.move (.tmp 2)) none []) (o4:OpIn ops 4 (some 40) (.indexAddr 63 (.tmp 39) (.const (.int .i64 0))) none [3]) (o5:OpIn ops 5 (some 41) (.load 24 (.tmp 40)) none [4]) (o6:OpIn ops 6 (some 42) (.move (.tmp 3)) none []) (o7:OpIn ops 7 (some 43) (.move (.tmp 5)) none []) (o8:OpIn ops 8 (some 44) (.call { callee:=.value (.func 110),args:=#[.tmp 38,.tmp 41,.tmp 42,.tmp 43],argTypes:=#[24,24,3,34] }) none [2,5,6,7]) (o9:OpIn ops 9 (some 45) (.extract (.tmp 44) 0) none [8]) (o10:OpIn ops 10 (some 46) (.extract (.tmp 44) 1) none [8]) (o11:OpIn ops 11 (some 12) (.assign (.tmp 45)) none [9]) (o12:OpIn ops 12 (some 13) (.assign (.tmp 46)) none [10])
  (hS:S w0.drew)
  (x1:∀ w,(Instr.indexAt 63 (.slice (some x) n c1) (.int .i64 0)).run Tryz.prog w=.ok (.pointer (some x)) w)
  (x2:∀ w,S w→(Instr.loadAt 24 (.pointer (some x))).run Tryz.prog w=.ok (.slice ua un uc) w)
  (x4:∀ w,(Instr.indexAt 63 (.slice (some y) n c2) (.int .i64 0)).run Tryz.prog w=.ok (.pointer (some y)) w)
  (x5:∀ w,S w→(Instr.loadAt 24 (.pointer (some y))).run Tryz.prog w=.ok (.slice da dn dc) w)
  (x8:∀ w,S w→Calls Tryz.prog 110 #[.slice ua un uc,.slice da dn dc,.int .i64 hh,.slice xa m xc] w fun e w'=>∃ b bn bc,e=.returned (.tuple #[.slice b bn bc,.int .i64 EE])∧Reads .i64 w' b bn O∧Below w.heap.size w w'∧S w')
  (u1:a0.tmps.getD 1 undef=.slice (some x) n c1)
  (u2:a0.tmps.getD 2 undef=.slice (some y) n c2)
  (u3:a0.tmps.getD 3 undef=.int .i64 hh)
  (u5:a0.tmps.getD 5 undef=.slice xa m xc)
  (hs:131≤a0.tmps.size)
  (fin:∀ a w,a.tmps.size=a0.tmps.size→a.defers=a0.defers→(∀ s,(∀ i,i<13→roD i≠some s)→a.tmps.getD s undef=a0.tmps.getD s undef)→S w→(∀ i d,i<13→roD i=some d→roF x y n c1 c2 un uc dn dc m xc ua da xa hh O EE i (a.tmps.getD d undef) w)→Q .normal a w):(Code.region id ops true).wp Tryz.prog Q a0 w0:=by
 have r17:∀ args w,(callFunc 110 args).run Tryz.prog w=.ok (.enter 110 args) w:=eNo Tryz.func110 (by kernel_rfl) rfl
 refine wRi (by kernel_rfl) hlow (Inv 13 roD a0 (fun _ _ w=>S w) (fun _=>roF x y n c1 c2 un uc dn dc m xc ua da xa hh O EE)) (Inv.start hS) ?_ ?_
 ·intro l i o a w ho hl hcl hdep hI
  have hi:i<13:=by rw[←hsz];exact (Array.getElem?_eq_some_iff.1 ho).1
  have ev:∀ (s:Nat),a.eval (.tmp s)=a.tmps.getD s undef:=fun _=>rfl
  have evf:∀ f,a.eval (.func f)=.func (.func f) #[] #[]:=fun _=>rfl
  have evc:∀ c:Value,a.eval (.const c)=c:=fun _=>rfl
  have inj:∀ d,roD i=some d→∀ j d',j<13→roD j=some d'→j≠i→d'≠d:=fun d hd j d' hj hd' hne e=>hne (roD_inj j hj i hi (by rw[hd',hd,e]) (by rw[hd'];simp))
  have kp:∀ s,(∀ i,i<13→roD i≠some s)→a.tmps.getD s undef=a0.tmps.getD s undef:=hI.kept
  have hw:S w:=hI.world
  have go:∀ {d:Nat}{v:Value}{w':World},roD i=some d→Below w.heap.size w w'→S w'→roF x y n c1 c2 un uc dn dc m xc ua da xa hh O EE i v w'→Inv 13 roD a0 (fun _ _ w=>S w) (fun _=>roF x y n c1 c2 un uc dn dc m xc ua da xa hh O EE) (fun j=>l j || j==i) (a.put (some d) v) w':=by
   intro d v w' hD hb hS' hF
   exact hI.put hi hD (Nat.lt_of_lt_of_le (roD_lt i hi d hD) hs) (inj d hD) hS' hF (fun j u _ _ _ hf=>roF_below hf hb)
  rcases (show i=0∨i=1∨i=2∨i=3∨i=4∨i=5∨i=6∨i=7∨i=8∨i=9∨i=10∨i=11∨i=12 by omega) with rfl|rfl|rfl|rfl|rfl|rfl|rfl|rfl|rfl|rfl|rfl|rfl|rfl
  ·obtain⟨o',e1,e2,e3,e4,e5⟩:=o0
   obtain rfl:=sOp ho e1
   have dp:=dPo e5 hdep
   have U1:a.tmps.getD 1 undef=.slice (some x) n c1:=(kp 1 (by decide)).trans u1
   exact wVa (v:=.slice (some x) n c1) (w':=w) ho e4 (by simp[execOp,e3,ev,evc,U1]) (by rw[e2];exact go rfl (Below.refl _ _) hw rfl)
  ·obtain⟨o',e1,e2,e3,e4,e5⟩:=o1
   obtain rfl:=sOp ho e1
   have dp:=dPo e5 hdep
   have V0:a.tmps.getD 36 undef=.slice (some x) n c1:=hI.val 0 36 (by decide) rfl (dp 0 (by decide))
   exact wVa (v:=.pointer (some x)) (w':=w) ho e4 (by simp[execOp,e3,ev,evc,V0,x1 w]) (by rw[e2];exact go rfl (Below.refl _ _) hw rfl)
  ·obtain⟨o',e1,e2,e3,e4,e5⟩:=o2
   obtain rfl:=sOp ho e1
   have dp:=dPo e5 hdep
   have V1:a.tmps.getD 37 undef=.pointer (some x):=hI.val 1 37 (by decide) rfl (dp 1 (by decide))
   exact wVa (v:=.slice ua un uc) (w':=w) ho e4 (by simp[execOp,e3,ev,evc,V1,x2 w hw]) (by rw[e2];exact go rfl (Below.refl _ _) hw rfl)
  ·obtain⟨o',e1,e2,e3,e4,e5⟩:=o3
   obtain rfl:=sOp ho e1
   have dp:=dPo e5 hdep
   have U2:a.tmps.getD 2 undef=.slice (some y) n c2:=(kp 2 (by decide)).trans u2
   exact wVa (v:=.slice (some y) n c2) (w':=w) ho e4 (by simp[execOp,e3,ev,evc,U2]) (by rw[e2];exact go rfl (Below.refl _ _) hw rfl)
  ·obtain⟨o',e1,e2,e3,e4,e5⟩:=o4
   obtain rfl:=sOp ho e1
   have dp:=dPo e5 hdep
   have V3:a.tmps.getD 39 undef=.slice (some y) n c2:=hI.val 3 39 (by decide) rfl (dp 3 (by decide))
   exact wVa (v:=.pointer (some y)) (w':=w) ho e4 (by simp[execOp,e3,ev,evc,V3,x4 w]) (by rw[e2];exact go rfl (Below.refl _ _) hw rfl)
  ·obtain⟨o',e1,e2,e3,e4,e5⟩:=o5
   obtain rfl:=sOp ho e1
   have dp:=dPo e5 hdep
   have V4:a.tmps.getD 40 undef=.pointer (some y):=hI.val 4 40 (by decide) rfl (dp 4 (by decide))
   exact wVa (v:=.slice da dn dc) (w':=w) ho e4 (by simp[execOp,e3,ev,evc,V4,x5 w hw]) (by rw[e2];exact go rfl (Below.refl _ _) hw rfl)
  ·obtain⟨o',e1,e2,e3,e4,e5⟩:=o6
   obtain rfl:=sOp ho e1
   have dp:=dPo e5 hdep
   have U3:a.tmps.getD 3 undef=.int .i64 hh:=(kp 3 (by decide)).trans u3
   exact wVa (v:=.int .i64 hh) (w':=w) ho e4 (by simp[execOp,e3,ev,evc,U3]) (by rw[e2];exact go rfl (Below.refl _ _) hw rfl)
  ·obtain⟨o',e1,e2,e3,e4,e5⟩:=o7
   obtain rfl:=sOp ho e1
   have dp:=dPo e5 hdep
   have U5:a.tmps.getD 5 undef=.slice xa m xc:=(kp 5 (by decide)).trans u5
   exact wVa (v:=.slice xa m xc) (w':=w) ho e4 (by simp[execOp,e3,ev,evc,U5]) (by rw[e2];exact go rfl (Below.refl _ _) hw rfl)
  ·obtain⟨o',e1,e2,e3,e4,e5⟩:=o8
   obtain rfl:=sOp ho e1
   have dp:=dPo e5 hdep
   have V2:a.tmps.getD 38 undef=.slice ua un uc:=hI.val 2 38 (by decide) rfl (dp 2 (by decide))
   have V5:a.tmps.getD 41 undef=.slice da dn dc:=hI.val 5 41 (by decide) rfl (dp 5 (by decide))
   have V6:a.tmps.getD 42 undef=.int .i64 hh:=hI.val 6 42 (by decide) rfl (dp 6 (by decide))
   have V7:a.tmps.getD 43 undef=.slice xa m xc:=hI.val 7 43 (by decide) rfl (dp 7 (by decide))
   refine wCa (f:=110) (args:=#[.slice ua un uc,.slice da dn dc,.int .i64 hh,.slice xa m xc]) ho e4 (by simp[execOp,e3,resolve,invoke,Deferred.ofValue,r17,ev,evf,evc,V2,V5,V6,V7]) ((x8 w hw).mono ?_)
   rintro e W' ⟨b,bn,bc,rfl,hr6,hb6,hs6⟩
   refine⟨_,rfl,?_⟩
   rw[e2]
   exact go rfl hb6 hs6 ⟨b,bn,bc,rfl,hr6⟩
  ·obtain⟨o',e1,e2,e3,e4,e5⟩:=o9
   obtain rfl:=sOp ho e1
   have dp:=dPo e5 hdep
   obtain⟨b8,n8,c8,V8,f8⟩:∃ b bn bc,a.tmps.getD 44 undef=.tuple #[.slice b bn bc,.int .i64 EE]∧Reads .i64 w b bn O:=hI.val 8 44 (by decide) rfl (dp 8 (by decide))
   exact wVa (v:=.slice b8 n8 c8) (w':=w) ho e4 (by simp[execOp,e3,ev,evc,V8,Instr.extract]) (by rw[e2];exact go rfl (Below.refl _ _) hw ⟨_,_,_,rfl,f8⟩)
  ·obtain⟨o',e1,e2,e3,e4,e5⟩:=o10
   obtain rfl:=sOp ho e1
   have dp:=dPo e5 hdep
   obtain⟨b8,n8,c8,V8,f8⟩:∃ b bn bc,a.tmps.getD 44 undef=.tuple #[.slice b bn bc,.int .i64 EE]∧Reads .i64 w b bn O:=hI.val 8 44 (by decide) rfl (dp 8 (by decide))
   exact wVa (v:=.int .i64 EE) (w':=w) ho e4 (by simp[execOp,e3,ev,evc,V8,Instr.extract]) (by rw[e2];exact go rfl (Below.refl _ _) hw rfl)
  ·obtain⟨o',e1,e2,e3,e4,e5⟩:=o11
   obtain rfl:=sOp ho e1
   have dp:=dPo e5 hdep
   obtain⟨b9,n9,c9,V9,f9⟩:∃ b bn bc,a.tmps.getD 45 undef=.slice b bn bc∧Reads .i64 w b bn O:=hI.val 9 45 (by decide) rfl (dp 9 (by decide))
   exact wVa (v:=.slice b9 n9 c9) (w':=w) ho e4 (by simp[execOp,e3,ev,evc,V9]) (by rw[e2];exact go rfl (Below.refl _ _) hw ⟨_,_,_,rfl,f9⟩)
  ·obtain⟨o',e1,e2,e3,e4,e5⟩:=o12
   obtain rfl:=sOp ho e1
   have dp:=dPo e5 hdep
   have V10:a.tmps.getD 46 undef=.int .i64 EE:=hI.val 10 46 (by decide) rfl (dp 10 (by decide))
   exact wVa (v:=.int .i64 EE) (w':=w) ho e4 (by simp[execOp,e3,ev,evc,V10]) (by rw[e2];exact go rfl (Below.refl _ _) hw rfl)
 ·intro l a w hall hI
  have all:∀ j,j<13→l j=true:=fun j hj=>hall j (by rw[hsz];exact hj)
  exact fin a w hI.size hI.defers hI.kept hI.world (fun i d hi hD=>hI.val i d hi hD (all i hi))
def rpD (i:Nat):Option Nat:=match i with|0=>some 70|1=>some 71|2=>some 72|3=>some 73|4=>some 74|5=>some 75|6=>some 76|7=>some 77|8=>some 78|9=>some 79|10=>some 80|11=>some 81|12=>some 82|13=>some 83|14=>some 84|15=>some 85|16=>some 86|17=>some 69|18=>some 87|19=>some 88|20=>some 19|21=>some 20|_=>none
theorem rpD_inj:∀ i,i<22→∀ j,j<22→rpD i=rpD j→rpD i≠none→i=j:=by decide
theorem rpD_lt:∀ i,i<22→∀ d,rpD i=some d→d<131:=by
 intro i hi d h
 have:∀ i,i<22→(rpD i).all (fun d=>decide (d<131))=true:=by decide
 have:=this i hi
 rw[h] at this
 simpa using this
def rpF (x y:Addr)(n c1 c2 un uc dn dc m xc:Nat)(ua da xa:Option Addr)(hh:Int)(t:Addr)(K ct g p B:Nat)(O:List Int)(EE:Int)(i:Nat)(q:Value)(w:World):Prop:=match i with
 | 0=>q=.slice (some x) n c1
 | 1=>q=.slice (some t) K ct
 | 2=>q=.int .i64 g
 | 3=>q=.pointer (some (t.add g))
 | 4=>q=.int .i64 p
 | 5=>q=.pointer (some (x.add p))
 | 6=>q=.slice ua un uc
 | 7=>q=.slice (some y) n c2
 | 8=>q=.slice (some t) K ct
 | 9=>q=.int .i64 g
 | 10=>q=.pointer (some (t.add g))
 | 11=>q=.int .i64 p
 | 12=>q=.pointer (some (y.add p))
 | 13=>q=.slice da dn dc
 | 14=>q=.int .i64 hh
 | 15=>q=.slice xa m xc
 | 16=>∃ b bn bc,q=.tuple #[.slice b bn bc,.int .i64 EE]∧Reads .i64 w b bn O∧∀ x,b=some x→x.block≠B
 | 17=>∃ b bn bc,q=.tuple #[.slice b bn bc,.int .i64 EE]∧Reads .i64 w b bn O∧∀ x,b=some x→x.block≠B
 | 18=>∃ b bn bc,q=.slice b bn bc∧Reads .i64 w b bn O∧∀ x,b=some x→x.block≠B
 | 19=>q=.int .i64 EE
 | 20=>∃ b bn bc,q=.slice b bn bc∧Reads .i64 w b bn O∧∀ x,b=some x→x.block≠B
 | 21=>q=.int .i64 EE
 | _=>True
theorem rpF_below {x y:Addr}{n c1 c2 un uc dn dc m xc:Nat}{ua da xa:Option Addr}{hh:Int}{t:Addr}{K ct g p B:Nat}{O:List Int}{EE:Int}{i:Nat}{q:Value}{w w':World}(h:rpF x y n c1 c2 un uc dn dc m xc ua da xa hh t K ct g p B O EE i q w)(hb:Below w.heap.size w w'):rpF x y n c1 c2 un uc dn dc m xc ua da xa hh t K ct g p B O EE i q w':=by
 unfold rpF at h ⊢
 split
 ·exact h
 ·exact h
 ·exact h
 ·exact h
 ·exact h
 ·exact h
 ·exact h
 ·exact h
 ·exact h
 ·exact h
 ·exact h
 ·exact h
 ·exact h
 ·exact h
 ·exact h
 ·exact h
 ·obtain⟨b,bn,bc,h1,h2,h3⟩:=h;exact⟨b,bn,bc,h1,h2.below hb,h3⟩
 ·obtain⟨b,bn,bc,h1,h2,h3⟩:=h;exact⟨b,bn,bc,h1,h2.below hb,h3⟩
 ·obtain⟨b,bn,bc,h1,h2,h3⟩:=h;exact⟨b,bn,bc,h1,h2.below hb,h3⟩
 ·exact h
 ·obtain⟨b,bn,bc,h1,h2,h3⟩:=h;exact⟨b,bn,bc,h1,h2.below hb,h3⟩
 ·exact h
 ·trivial
theorem rp_region {id:Nat}{ops:Array Oper}{Q:Exit→Act→World→Prop}{a0:Act}{w0:World}(x y:Addr)(n c1 c2 un uc dn dc m xc:Nat)(ua da xa:Option Addr)(hh:Int)(t:Addr)(K ct g p B:Nat)(O:List Int)(EE:Int)(S:World→Prop)(hlow:lowB ops=true)(hsz:ops.size=22)
  (o0:OpIn ops 0 (some 70) (.move (.tmp 1)) none []) (o1:OpIn ops 1 (some 71) (.move (.tmp 14)) none []) (o2:OpIn ops 2 (some 72) (.move (.tmp 18)) none []) (o3:OpIn ops 3 (some 73) (.indexAddr 45 (.tmp 71) (.tmp 72)) none [1,2]) (o4:OpIn ops 4 (some 74) (.load 3 (.tmp 73)) none [3]) (o5:OpIn ops 5 (some 75) (.indexAddr 63 (.tmp 70) (.tmp 74)) none [0,4]) (o6:OpIn ops 6 (some 76) (.load 24 (.tmp 75)) none [5]) (o7:OpIn ops 7 (some 77) (.move (.tmp 2)) none []) (o8:OpIn ops 8 (some 78) (.move (.tmp 14)) none []) (o9:OpIn ops 9 (some 79) (.move (.tmp 18)) none []) (o10:OpIn ops 10 (some 80) (.indexAddr 45 (.tmp 78) (.tmp 79)) none [8,9]) (o11:OpIn ops 11 (some 81) (.load 3 (.tmp 80)) none [10]) (o12:OpIn ops 12 (some 82) (.indexAddr 63 (.tmp 77) (.tmp 81)) none [7,11]) (o13:OpIn ops 13 (some 83) (.load 24 (.tmp 82)) none [12]) (o14:OpIn ops 14 (some 84) (.move (.tmp 3)) none []) (o15:OpIn ops 15 (some 85) (.move (.tmp 5)) none []) (o16:OpIn ops 16 (some 86) (.call { callee:=.value (.func 110),args:=#[.tmp 76,.tmp 83,.tmp 84,.tmp 85],argTypes:=#[24,24,3,34] }) none [6,13,14,15]) (o17:OpIn ops 17 (some 69) (.move (.tmp 86)) none [16]) (o18:OpIn ops 18 (some 87) (.extract (.tmp 69) 0) none [17]) (o19:OpIn ops 19 (some 88) (.extract (.tmp 69) 1) none [17]) (o20:OpIn ops 20 (some 19) (.assign (.tmp 87)) none [18]) (o21:OpIn ops 21 (some 20) (.assign (.tmp 88)) none [19])
  (hS:S w0.drew)
  (x3:∀ w,(Instr.indexAt 45 (.slice (some t) K ct) (.int .i64 g)).run Tryz.prog w=.ok (.pointer (some (t.add g))) w)
  (x4:∀ w,S w→(Instr.loadAt 3 (.pointer (some (t.add g)))).run Tryz.prog w=.ok (.int .i64 p) w)
  (x5:∀ w,(Instr.indexAt 63 (.slice (some x) n c1) (.int .i64 p)).run Tryz.prog w=.ok (.pointer (some (x.add p))) w)
  (x6:∀ w,S w→(Instr.loadAt 24 (.pointer (some (x.add p)))).run Tryz.prog w=.ok (.slice ua un uc) w)
  (x10:∀ w,(Instr.indexAt 45 (.slice (some t) K ct) (.int .i64 g)).run Tryz.prog w=.ok (.pointer (some (t.add g))) w)
  (x11:∀ w,S w→(Instr.loadAt 3 (.pointer (some (t.add g)))).run Tryz.prog w=.ok (.int .i64 p) w)
  (x12:∀ w,(Instr.indexAt 63 (.slice (some y) n c2) (.int .i64 p)).run Tryz.prog w=.ok (.pointer (some (y.add p))) w)
  (x13:∀ w,S w→(Instr.loadAt 24 (.pointer (some (y.add p)))).run Tryz.prog w=.ok (.slice da dn dc) w)
  (x16:∀ w,S w→Calls Tryz.prog 110 #[.slice ua un uc,.slice da dn dc,.int .i64 hh,.slice xa m xc] w fun e w'=>∃ b bn bc,e=.returned (.tuple #[.slice b bn bc,.int .i64 EE])∧Reads .i64 w' b bn O∧(∀ x,b=some x→x.block≠B)∧Below w.heap.size w w'∧S w')
  (u1:a0.tmps.getD 1 undef=.slice (some x) n c1)
  (u2:a0.tmps.getD 2 undef=.slice (some y) n c2)
  (u3:a0.tmps.getD 3 undef=.int .i64 hh)
  (u5:a0.tmps.getD 5 undef=.slice xa m xc)
  (u14:a0.tmps.getD 14 undef=.slice (some t) K ct)
  (u18:a0.tmps.getD 18 undef=.int .i64 g)
  (hs:131≤a0.tmps.size)
  (fin:∀ a w,a.tmps.size=a0.tmps.size→a.defers=a0.defers→(∀ s,(∀ i,i<22→rpD i≠some s)→a.tmps.getD s undef=a0.tmps.getD s undef)→S w→(∀ i d,i<22→rpD i=some d→rpF x y n c1 c2 un uc dn dc m xc ua da xa hh t K ct g p B O EE i (a.tmps.getD d undef) w)→Q .normal a w):(Code.region id ops true).wp Tryz.prog Q a0 w0:=by
 have r17:∀ args w,(callFunc 110 args).run Tryz.prog w=.ok (.enter 110 args) w:=eNo Tryz.func110 (by kernel_rfl) rfl
 refine wRi (by kernel_rfl) hlow (Inv 22 rpD a0 (fun _ _ w=>S w) (fun _=>rpF x y n c1 c2 un uc dn dc m xc ua da xa hh t K ct g p B O EE)) (Inv.start hS) ?_ ?_
 ·intro l i o a w ho hl hcl hdep hI
  have hi:i<22:=by rw[←hsz];exact (Array.getElem?_eq_some_iff.1 ho).1
  have ev:∀ (s:Nat),a.eval (.tmp s)=a.tmps.getD s undef:=fun _=>rfl
  have evf:∀ f,a.eval (.func f)=.func (.func f) #[] #[]:=fun _=>rfl
  have evc:∀ c:Value,a.eval (.const c)=c:=fun _=>rfl
  have inj:∀ d,rpD i=some d→∀ j d',j<22→rpD j=some d'→j≠i→d'≠d:=fun d hd j d' hj hd' hne e=>hne (rpD_inj j hj i hi (by rw[hd',hd,e]) (by rw[hd'];simp))
  have kp:∀ s,(∀ i,i<22→rpD i≠some s)→a.tmps.getD s undef=a0.tmps.getD s undef:=hI.kept
  have hw:S w:=hI.world
  have go:∀ {d:Nat}{v:Value}{w':World},rpD i=some d→Below w.heap.size w w'→S w'→rpF x y n c1 c2 un uc dn dc m xc ua da xa hh t K ct g p B O EE i v w'→Inv 22 rpD a0 (fun _ _ w=>S w) (fun _=>rpF x y n c1 c2 un uc dn dc m xc ua da xa hh t K ct g p B O EE) (fun j=>l j || j==i) (a.put (some d) v) w':=by
   intro d v w' hD hb hS' hF
   exact hI.put hi hD (Nat.lt_of_lt_of_le (rpD_lt i hi d hD) hs) (inj d hD) hS' hF (fun j u _ _ _ hf=>rpF_below hf hb)
  rcases (show i=0∨i=1∨i=2∨i=3∨i=4∨i=5∨i=6∨i=7∨i=8∨i=9∨i=10∨i=11∨i=12∨i=13∨i=14∨i=15∨i=16∨i=17∨i=18∨i=19∨i=20∨i=21 by omega) with rfl|rfl|rfl|rfl|rfl|rfl|rfl|rfl|rfl|rfl|rfl|rfl|rfl|rfl|rfl|rfl|rfl|rfl|rfl|rfl|rfl|rfl
  ·obtain⟨o',e1,e2,e3,e4,e5⟩:=o0
   obtain rfl:=sOp ho e1
   have dp:=dPo e5 hdep
   have U1:a.tmps.getD 1 undef=.slice (some x) n c1:=(kp 1 (by decide)).trans u1
   exact wVa (v:=.slice (some x) n c1) (w':=w) ho e4 (by simp[execOp,e3,ev,evc,U1]) (by rw[e2];exact go rfl (Below.refl _ _) hw rfl)
  ·obtain⟨o',e1,e2,e3,e4,e5⟩:=o1
   obtain rfl:=sOp ho e1
   have dp:=dPo e5 hdep
   have U14:a.tmps.getD 14 undef=.slice (some t) K ct:=(kp 14 (by decide)).trans u14
   exact wVa (v:=.slice (some t) K ct) (w':=w) ho e4 (by simp[execOp,e3,ev,evc,U14]) (by rw[e2];exact go rfl (Below.refl _ _) hw rfl)
  ·obtain⟨o',e1,e2,e3,e4,e5⟩:=o2
   obtain rfl:=sOp ho e1
   have dp:=dPo e5 hdep
   have U18:a.tmps.getD 18 undef=.int .i64 g:=(kp 18 (by decide)).trans u18
   exact wVa (v:=.int .i64 g) (w':=w) ho e4 (by simp[execOp,e3,ev,evc,U18]) (by rw[e2];exact go rfl (Below.refl _ _) hw rfl)
  ·obtain⟨o',e1,e2,e3,e4,e5⟩:=o3
   obtain rfl:=sOp ho e1
   have dp:=dPo e5 hdep
   have V1:a.tmps.getD 71 undef=.slice (some t) K ct:=hI.val 1 71 (by decide) rfl (dp 1 (by decide))
   have V2:a.tmps.getD 72 undef=.int .i64 g:=hI.val 2 72 (by decide) rfl (dp 2 (by decide))
   exact wVa (v:=.pointer (some (t.add g))) (w':=w) ho e4 (by simp[execOp,e3,ev,evc,V1,V2,x3 w]) (by rw[e2];exact go rfl (Below.refl _ _) hw rfl)
  ·obtain⟨o',e1,e2,e3,e4,e5⟩:=o4
   obtain rfl:=sOp ho e1
   have dp:=dPo e5 hdep
   have V3:a.tmps.getD 73 undef=.pointer (some (t.add g)):=hI.val 3 73 (by decide) rfl (dp 3 (by decide))
   exact wVa (v:=.int .i64 p) (w':=w) ho e4 (by simp[execOp,e3,ev,evc,V3,x4 w hw]) (by rw[e2];exact go rfl (Below.refl _ _) hw rfl)
  ·obtain⟨o',e1,e2,e3,e4,e5⟩:=o5
   obtain rfl:=sOp ho e1
   have dp:=dPo e5 hdep
   have V0:a.tmps.getD 70 undef=.slice (some x) n c1:=hI.val 0 70 (by decide) rfl (dp 0 (by decide))
   have V4:a.tmps.getD 74 undef=.int .i64 p:=hI.val 4 74 (by decide) rfl (dp 4 (by decide))
   exact wVa (v:=.pointer (some (x.add p))) (w':=w) ho e4 (by simp[execOp,e3,ev,evc,V0,V4,x5 w]) (by rw[e2];exact go rfl (Below.refl _ _) hw rfl)
  ·obtain⟨o',e1,e2,e3,e4,e5⟩:=o6
   obtain rfl:=sOp ho e1
   have dp:=dPo e5 hdep
   have V5:a.tmps.getD 75 undef=.pointer (some (x.add p)):=hI.val 5 75 (by decide) rfl (dp 5 (by decide))
   exact wVa (v:=.slice ua un uc) (w':=w) ho e4 (by simp[execOp,e3,ev,evc,V5,x6 w hw]) (by rw[e2];exact go rfl (Below.refl _ _) hw rfl)
  ·obtain⟨o',e1,e2,e3,e4,e5⟩:=o7
   obtain rfl:=sOp ho e1
   have dp:=dPo e5 hdep
   have U2:a.tmps.getD 2 undef=.slice (some y) n c2:=(kp 2 (by decide)).trans u2
   exact wVa (v:=.slice (some y) n c2) (w':=w) ho e4 (by simp[execOp,e3,ev,evc,U2]) (by rw[e2];exact go rfl (Below.refl _ _) hw rfl)
  ·obtain⟨o',e1,e2,e3,e4,e5⟩:=o8
   obtain rfl:=sOp ho e1
   have dp:=dPo e5 hdep
   have U14:a.tmps.getD 14 undef=.slice (some t) K ct:=(kp 14 (by decide)).trans u14
   exact wVa (v:=.slice (some t) K ct) (w':=w) ho e4 (by simp[execOp,e3,ev,evc,U14]) (by rw[e2];exact go rfl (Below.refl _ _) hw rfl)
  ·obtain⟨o',e1,e2,e3,e4,e5⟩:=o9
   obtain rfl:=sOp ho e1
   have dp:=dPo e5 hdep
   have U18:a.tmps.getD 18 undef=.int .i64 g:=(kp 18 (by decide)).trans u18
   exact wVa (v:=.int .i64 g) (w':=w) ho e4 (by simp[execOp,e3,ev,evc,U18]) (by rw[e2];exact go rfl (Below.refl _ _) hw rfl)
  ·obtain⟨o',e1,e2,e3,e4,e5⟩:=o10
   obtain rfl:=sOp ho e1
   have dp:=dPo e5 hdep
   have V8:a.tmps.getD 78 undef=.slice (some t) K ct:=hI.val 8 78 (by decide) rfl (dp 8 (by decide))
   have V9:a.tmps.getD 79 undef=.int .i64 g:=hI.val 9 79 (by decide) rfl (dp 9 (by decide))
   exact wVa (v:=.pointer (some (t.add g))) (w':=w) ho e4 (by simp[execOp,e3,ev,evc,V8,V9,x10 w]) (by rw[e2];exact go rfl (Below.refl _ _) hw rfl)
  ·obtain⟨o',e1,e2,e3,e4,e5⟩:=o11
   obtain rfl:=sOp ho e1
   have dp:=dPo e5 hdep
   have V10:a.tmps.getD 80 undef=.pointer (some (t.add g)):=hI.val 10 80 (by decide) rfl (dp 10 (by decide))
   exact wVa (v:=.int .i64 p) (w':=w) ho e4 (by simp[execOp,e3,ev,evc,V10,x11 w hw]) (by rw[e2];exact go rfl (Below.refl _ _) hw rfl)
  ·obtain⟨o',e1,e2,e3,e4,e5⟩:=o12
   obtain rfl:=sOp ho e1
   have dp:=dPo e5 hdep
   have V7:a.tmps.getD 77 undef=.slice (some y) n c2:=hI.val 7 77 (by decide) rfl (dp 7 (by decide))
   have V11:a.tmps.getD 81 undef=.int .i64 p:=hI.val 11 81 (by decide) rfl (dp 11 (by decide))
   exact wVa (v:=.pointer (some (y.add p))) (w':=w) ho e4 (by simp[execOp,e3,ev,evc,V7,V11,x12 w]) (by rw[e2];exact go rfl (Below.refl _ _) hw rfl)
  ·obtain⟨o',e1,e2,e3,e4,e5⟩:=o13
   obtain rfl:=sOp ho e1
   have dp:=dPo e5 hdep
   have V12:a.tmps.getD 82 undef=.pointer (some (y.add p)):=hI.val 12 82 (by decide) rfl (dp 12 (by decide))
   exact wVa (v:=.slice da dn dc) (w':=w) ho e4 (by simp[execOp,e3,ev,evc,V12,x13 w hw]) (by rw[e2];exact go rfl (Below.refl _ _) hw rfl)
  ·obtain⟨o',e1,e2,e3,e4,e5⟩:=o14
   obtain rfl:=sOp ho e1
   have dp:=dPo e5 hdep
   have U3:a.tmps.getD 3 undef=.int .i64 hh:=(kp 3 (by decide)).trans u3
   exact wVa (v:=.int .i64 hh) (w':=w) ho e4 (by simp[execOp,e3,ev,evc,U3]) (by rw[e2];exact go rfl (Below.refl _ _) hw rfl)
  ·obtain⟨o',e1,e2,e3,e4,e5⟩:=o15
   obtain rfl:=sOp ho e1
   have dp:=dPo e5 hdep
   have U5:a.tmps.getD 5 undef=.slice xa m xc:=(kp 5 (by decide)).trans u5
   exact wVa (v:=.slice xa m xc) (w':=w) ho e4 (by simp[execOp,e3,ev,evc,U5]) (by rw[e2];exact go rfl (Below.refl _ _) hw rfl)
  ·obtain⟨o',e1,e2,e3,e4,e5⟩:=o16
   obtain rfl:=sOp ho e1
   have dp:=dPo e5 hdep
   have V6:a.tmps.getD 76 undef=.slice ua un uc:=hI.val 6 76 (by decide) rfl (dp 6 (by decide))
   have V13:a.tmps.getD 83 undef=.slice da dn dc:=hI.val 13 83 (by decide) rfl (dp 13 (by decide))
   have V14:a.tmps.getD 84 undef=.int .i64 hh:=hI.val 14 84 (by decide) rfl (dp 14 (by decide))
   have V15:a.tmps.getD 85 undef=.slice xa m xc:=hI.val 15 85 (by decide) rfl (dp 15 (by decide))
   refine wCa (f:=110) (args:=#[.slice ua un uc,.slice da dn dc,.int .i64 hh,.slice xa m xc]) ho e4 (by simp[execOp,e3,resolve,invoke,Deferred.ofValue,r17,ev,evf,evc,V6,V13,V14,V15]) ((x16 w hw).mono ?_)
   rintro e W' ⟨b,bn,bc,rfl,hr6,hz6,hb6,hs6⟩
   refine⟨_,rfl,?_⟩
   rw[e2]
   exact go rfl hb6 hs6 ⟨b,bn,bc,rfl,hr6,hz6⟩
  ·obtain⟨o',e1,e2,e3,e4,e5⟩:=o17
   obtain rfl:=sOp ho e1
   have dp:=dPo e5 hdep
   obtain⟨b16,n16,c16,V16,f16,z16⟩:∃ b bn bc,a.tmps.getD 86 undef=.tuple #[.slice b bn bc,.int .i64 EE]∧Reads .i64 w b bn O∧∀ x,b=some x→x.block≠B:=hI.val 16 86 (by decide) rfl (dp 16 (by decide))
   exact wVa (v:=.tuple #[.slice b16 n16 c16,.int .i64 EE]) (w':=w) ho e4 (by simp[execOp,e3,ev,evc,V16]) (by rw[e2];exact go rfl (Below.refl _ _) hw ⟨_,_,_,rfl,f16,z16⟩)
  ·obtain⟨o',e1,e2,e3,e4,e5⟩:=o18
   obtain rfl:=sOp ho e1
   have dp:=dPo e5 hdep
   obtain⟨b17,n17,c17,V17,f17,z17⟩:∃ b bn bc,a.tmps.getD 69 undef=.tuple #[.slice b bn bc,.int .i64 EE]∧Reads .i64 w b bn O∧∀ x,b=some x→x.block≠B:=hI.val 17 69 (by decide) rfl (dp 17 (by decide))
   exact wVa (v:=.slice b17 n17 c17) (w':=w) ho e4 (by simp[execOp,e3,ev,evc,V17,Instr.extract]) (by rw[e2];exact go rfl (Below.refl _ _) hw ⟨_,_,_,rfl,f17,z17⟩)
  ·obtain⟨o',e1,e2,e3,e4,e5⟩:=o19
   obtain rfl:=sOp ho e1
   have dp:=dPo e5 hdep
   obtain⟨b17,n17,c17,V17,f17,z17⟩:∃ b bn bc,a.tmps.getD 69 undef=.tuple #[.slice b bn bc,.int .i64 EE]∧Reads .i64 w b bn O∧∀ x,b=some x→x.block≠B:=hI.val 17 69 (by decide) rfl (dp 17 (by decide))
   exact wVa (v:=.int .i64 EE) (w':=w) ho e4 (by simp[execOp,e3,ev,evc,V17,Instr.extract]) (by rw[e2];exact go rfl (Below.refl _ _) hw rfl)
  ·obtain⟨o',e1,e2,e3,e4,e5⟩:=o20
   obtain rfl:=sOp ho e1
   have dp:=dPo e5 hdep
   obtain⟨b18,n18,c18,V18,f18,z18⟩:∃ b bn bc,a.tmps.getD 87 undef=.slice b bn bc∧Reads .i64 w b bn O∧∀ x,b=some x→x.block≠B:=hI.val 18 87 (by decide) rfl (dp 18 (by decide))
   exact wVa (v:=.slice b18 n18 c18) (w':=w) ho e4 (by simp[execOp,e3,ev,evc,V18]) (by rw[e2];exact go rfl (Below.refl _ _) hw ⟨_,_,_,rfl,f18,z18⟩)
  ·obtain⟨o',e1,e2,e3,e4,e5⟩:=o21
   obtain rfl:=sOp ho e1
   have dp:=dPo e5 hdep
   have V19:a.tmps.getD 88 undef=.int .i64 EE:=hI.val 19 88 (by decide) rfl (dp 19 (by decide))
   exact wVa (v:=.int .i64 EE) (w':=w) ho e4 (by simp[execOp,e3,ev,evc,V19]) (by rw[e2];exact go rfl (Below.refl _ _) hw rfl)
 ·intro l a w hall hI
  have all:∀ j,j<22→l j=true:=fun j hj=>hall j (by rw[hsz];exact hj)
  exact fin a w hI.size hI.defers hI.kept hI.world (fun i d hi hD=>hI.val i d hi hD (all i hi))
def rsD (i:Nat):Option Nat:=match i with|0=>some 98|1=>some 99|2=>some 100|3=>some 101|4=>some 102|5=>some 103|6=>some 104|7=>some 105|8=>some 106|9=>some 107|10=>some 108|11=>some 109|12=>some 110|13=>some 111|14=>some 112|15=>some 113|16=>some 114|_=>none
theorem rsD_inj:∀ i,i<18→∀ j,j<18→rsD i=rsD j→rsD i≠none→i=j:=by decide
theorem rsD_lt:∀ i,i<18→∀ d,rsD i=some d→d<131:=by
 intro i hi d h
 have:∀ i,i<18→(rsD i).all (fun d=>decide (d<131))=true:=by decide
 have:=this i hi
 rw[h] at this
 simpa using this
def rsF (x y:Addr)(B K m c1 c2 j g:Nat)(X0 X1 X2 X3 X4:Int)(i:Nat)(q:Value)(w:World):Prop:=match i with
 | 0=>q=.slice (some ⟨B,0,none⟩) m m
 | 1=>q=.int .i64 g
 | 2=>q=.slice (some ⟨B,0,none⟩) m m
 | 3=>q=.int .i64 g
 | 4=>q=.pointer (some ⟨B,g,none⟩)
 | 5=>q=.int .i64 X0
 | 6=>q=.slice (some x) K c1
 | 7=>q=.int .i64 j
 | 8=>q=.pointer (some (x.add j))
 | 9=>q=.int .i64 X1
 | 10=>q=.slice (some y) m c2
 | 11=>q=.int .i64 g
 | 12=>q=.pointer (some (y.add g))
 | 13=>q=.int .i64 X2
 | 14=>q=.int .i64 X3
 | 15=>q=.int .i64 X4
 | 16=>q=.pointer (some ⟨B,g,none⟩)
 | _=>True
theorem rsF_below {x y:Addr}{B K m c1 c2 j g:Nat}{X0 X1 X2 X3 X4:Int}{i:Nat}{q:Value}{w w':World}(h:rsF x y B K m c1 c2 j g X0 X1 X2 X3 X4 i q w)(hb:Below w.heap.size w w'):rsF x y B K m c1 c2 j g X0 X1 X2 X3 X4 i q w':=by
 unfold rsF at h ⊢
 split
 ·exact h
 ·exact h
 ·exact h
 ·exact h
 ·exact h
 ·exact h
 ·exact h
 ·exact h
 ·exact h
 ·exact h
 ·exact h
 ·exact h
 ·exact h
 ·exact h
 ·exact h
 ·exact h
 ·exact h
 ·trivial
theorem rs_region {id:Nat}{ops:Array Oper}{Q:Exit→Act→World→Prop}{a0:Act}{w0:World}(x y:Addr)(B K m c1 c2 j g:Nat)(X0 X1 X2 X3 X4:Int)(S:World→Prop)(hlow:lowB ops=true)(hsz:ops.size=18)
  (o0:OpIn ops 0 (some 98) (.move (.tmp 17)) none []) (o1:OpIn ops 1 (some 99) (.move (.tmp 21)) none []) (o2:OpIn ops 2 (some 100) (.move (.tmp 17)) none []) (o3:OpIn ops 3 (some 101) (.move (.tmp 21)) none []) (o4:OpIn ops 4 (some 102) (.indexAddr 34 (.tmp 100) (.tmp 101)) none [2,3]) (o5:OpIn ops 5 (some 103) (.load 2 (.tmp 102)) none [4]) (o6:OpIn ops 6 (some 104) (.move (.tmp 15)) none []) (o7:OpIn ops 7 (some 105) (.move (.tmp 18)) none []) (o8:OpIn ops 8 (some 106) (.indexAddr 34 (.tmp 104) (.tmp 105)) none [6,7]) (o9:OpIn ops 9 (some 107) (.load 2 (.tmp 106)) none [8]) (o10:OpIn ops 10 (some 108) (.move (.tmp 19)) none []) (o11:OpIn ops 11 (some 109) (.move (.tmp 21)) none []) (o12:OpIn ops 12 (some 110) (.indexAddr 34 (.tmp 108) (.tmp 109)) none [10,11]) (o13:OpIn ops 13 (some 111) (.load 2 (.tmp 110)) none [12]) (o14:OpIn ops 14 (some 112) (.binOp .mul 2 (.tmp 107) (.tmp 111) 2) none [9,13]) (o15:OpIn ops 15 (some 113) (.call { callee:=.value (.func 72),args:=#[.tmp 103,.tmp 112],argTypes:=#[2,2] }) none [5,14]) (o16:OpIn ops 16 (some 114) (.indexAddr 34 (.tmp 98) (.tmp 99)) none [0,1]) (o17:OpIn ops 17 none (.store 2 (.tmp 114) (.tmp 113)) none [15,16])
  (hS:S w0.drew)
  (x4:∀ w,(Instr.indexAt 34 (.slice (some ⟨B,0,none⟩) m m) (.int .i64 g)).run Tryz.prog w=.ok (.pointer (some ⟨B,g,none⟩)) w)
  (x5:∀ w,S w→(Instr.loadAt 2 (.pointer (some ⟨B,g,none⟩))).run Tryz.prog w=.ok (.int .i64 X0) w)
  (x8:∀ w,(Instr.indexAt 34 (.slice (some x) K c1) (.int .i64 j)).run Tryz.prog w=.ok (.pointer (some (x.add j))) w)
  (x9:∀ w,S w→(Instr.loadAt 2 (.pointer (some (x.add j)))).run Tryz.prog w=.ok (.int .i64 X1) w)
  (x12:∀ w,(Instr.indexAt 34 (.slice (some y) m c2) (.int .i64 g)).run Tryz.prog w=.ok (.pointer (some (y.add g))) w)
  (x13:∀ w,S w→(Instr.loadAt 2 (.pointer (some (y.add g)))).run Tryz.prog w=.ok (.int .i64 X2) w)
  (x14:∀ w,(binOp .mul 2 (.int .i64 X1) (.int .i64 X2)).run Tryz.prog w=.ok (.int .i64 X3) w)
  (x15:∀ w,S w→Calls Tryz.prog 72 #[.int .i64 X0,.int .i64 X3] w fun e w'=>e=.returned (.int .i64 X4)∧w'=w)
  (x16:∀ w,(Instr.indexAt 34 (.slice (some ⟨B,0,none⟩) m m) (.int .i64 g)).run Tryz.prog w=.ok (.pointer (some ⟨B,g,none⟩)) w)
  (u15:a0.tmps.getD 15 undef=.slice (some x) K c1)
  (u17:a0.tmps.getD 17 undef=.slice (some ⟨B,0,none⟩) m m)
  (u18:a0.tmps.getD 18 undef=.int .i64 j)
  (u19:a0.tmps.getD 19 undef=.slice (some y) m c2)
  (u21:a0.tmps.getD 21 undef=.int .i64 g)
  (hs:131≤a0.tmps.size)
  (fin:∀ a w,a.tmps.size=a0.tmps.size→a.defers=a0.defers→(∀ s,(∀ i,i<18→rsD i≠some s)→a.tmps.getD s undef=a0.tmps.getD s undef)→S w→(∀ i d,i<17→rsD i=some d→rsF x y B K m c1 c2 j g X0 X1 X2 X3 X4 i (a.tmps.getD d undef) w)→∃ w',(Instr.storeAt 2 (a.tmps.getD 114 undef) (a.tmps.getD 113 undef)).run Tryz.prog w=.ok () w'∧Q .normal a w'):(Code.region id ops true).wp Tryz.prog Q a0 w0:=by
 have r24:∀ args w,(callFunc 72 args).run Tryz.prog w=.ok (.enter 72 args) w:=eNo Tryz.func72 (by kernel_rfl) rfl
 refine wRi (by kernel_rfl) hlow (fun l a w=>(l 17=true∧Q .normal a w)∨(l 17=false∧Inv 18 rsD a0 (fun _ _ w=>S w) (fun _=>rsF x y B K m c1 c2 j g X0 X1 X2 X3 X4) l a w)) (.inr ⟨rfl,Inv.start hS⟩) ?_ ?_
 ·intro l i o a w ho hl hcl hdep hI0
  have hi:i<18:=by rw[←hsz];exact (Array.getElem?_eq_some_iff.1 ho).1
  rcases hI0 with⟨hlast,-⟩|⟨hlast,hI⟩
  ·exfalso
   have d15:l 15=true:=hcl.dep' o17 hlast 15 (by decide)
   have d16:l 16=true:=hcl.dep' o17 hlast 16 (by decide)
   have d5:l 5=true:=hcl.dep' o15 d15 5 (by decide)
   have d14:l 14=true:=hcl.dep' o15 d15 14 (by decide)
   have d0:l 0=true:=hcl.dep' o16 d16 0 (by decide)
   have d1:l 1=true:=hcl.dep' o16 d16 1 (by decide)
   have d4:l 4=true:=hcl.dep' o5 d5 4 (by decide)
   have d9:l 9=true:=hcl.dep' o14 d14 9 (by decide)
   have d13:l 13=true:=hcl.dep' o14 d14 13 (by decide)
   have d2:l 2=true:=hcl.dep' o4 d4 2 (by decide)
   have d3:l 3=true:=hcl.dep' o4 d4 3 (by decide)
   have d8:l 8=true:=hcl.dep' o9 d9 8 (by decide)
   have d12:l 12=true:=hcl.dep' o13 d13 12 (by decide)
   have d6:l 6=true:=hcl.dep' o8 d8 6 (by decide)
   have d7:l 7=true:=hcl.dep' o8 d8 7 (by decide)
   have d10:l 10=true:=hcl.dep' o12 d12 10 (by decide)
   have d11:l 11=true:=hcl.dep' o12 d12 11 (by decide)
   rcases (show i=0∨i=1∨i=2∨i=3∨i=4∨i=5∨i=6∨i=7∨i=8∨i=9∨i=10∨i=11∨i=12∨i=13∨i=14∨i=15∨i=16∨i=17 by omega) with rfl|rfl|rfl|rfl|rfl|rfl|rfl|rfl|rfl|rfl|rfl|rfl|rfl|rfl|rfl|rfl|rfl|rfl
   ·rw[d0] at hl;cases hl
   ·rw[d1] at hl;cases hl
   ·rw[d2] at hl;cases hl
   ·rw[d3] at hl;cases hl
   ·rw[d4] at hl;cases hl
   ·rw[d5] at hl;cases hl
   ·rw[d6] at hl;cases hl
   ·rw[d7] at hl;cases hl
   ·rw[d8] at hl;cases hl
   ·rw[d9] at hl;cases hl
   ·rw[d10] at hl;cases hl
   ·rw[d11] at hl;cases hl
   ·rw[d12] at hl;cases hl
   ·rw[d13] at hl;cases hl
   ·rw[d14] at hl;cases hl
   ·rw[d15] at hl;cases hl
   ·rw[d16] at hl;cases hl
   ·rw[hlast] at hl;cases hl
  have ev:∀ (s:Nat),a.eval (.tmp s)=a.tmps.getD s undef:=fun _=>rfl
  have evf:∀ f,a.eval (.func f)=.func (.func f) #[] #[]:=fun _=>rfl
  have evc:∀ c:Value,a.eval (.const c)=c:=fun _=>rfl
  have inj:∀ d,rsD i=some d→∀ j d',j<18→rsD j=some d'→j≠i→d'≠d:=fun d hd j d' hj hd' hne e=>hne (rsD_inj j hj i hi (by rw[hd',hd,e]) (by rw[hd'];simp))
  have kp:∀ s,(∀ i,i<18→rsD i≠some s)→a.tmps.getD s undef=a0.tmps.getD s undef:=hI.kept
  have hw:S w:=hI.world
  have go:∀ {d:Nat}{v:Value}{w':World},rsD i=some d→i≠17→Below w.heap.size w w'→S w'→rsF x y B K m c1 c2 j g X0 X1 X2 X3 X4 i v w'→((l 17 || 17==i)=true∧Q .normal (a.put (some d) v) w')∨((l 17 || 17==i)=false∧Inv 18 rsD a0 (fun _ _ w=>S w) (fun _=>rsF x y B K m c1 c2 j g X0 X1 X2 X3 X4) (fun j=>l j || j==i) (a.put (some d) v) w'):=by
   intro d v w' hD hne hb hS' hF
   refine .inr ⟨?_,hI.put hi hD (Nat.lt_of_lt_of_le (rsD_lt i hi d hD) hs) (inj d hD) hS' hF (fun j u _ _ _ hf=>rsF_below hf hb)⟩
   rw[hlast,Bool.false_or]
   exact beq_eq_false_iff_ne.2 (Ne.symm hne)
  rcases (show i=0∨i=1∨i=2∨i=3∨i=4∨i=5∨i=6∨i=7∨i=8∨i=9∨i=10∨i=11∨i=12∨i=13∨i=14∨i=15∨i=16∨i=17 by omega) with rfl|rfl|rfl|rfl|rfl|rfl|rfl|rfl|rfl|rfl|rfl|rfl|rfl|rfl|rfl|rfl|rfl|rfl
  ·obtain⟨o',e1,e2,e3,e4,e5⟩:=o0
   obtain rfl:=sOp ho e1
   have dp:=dPo e5 hdep
   have U17:a.tmps.getD 17 undef=.slice (some ⟨B,0,none⟩) m m:=(kp 17 (by decide)).trans u17
   exact wVa (v:=.slice (some ⟨B,0,none⟩) m m) (w':=w) ho e4 (by simp[execOp,e3,ev,evc,U17]) (by rw[e2];exact go rfl (by decide) (Below.refl _ _) hw rfl)
  ·obtain⟨o',e1,e2,e3,e4,e5⟩:=o1
   obtain rfl:=sOp ho e1
   have dp:=dPo e5 hdep
   have U21:a.tmps.getD 21 undef=.int .i64 g:=(kp 21 (by decide)).trans u21
   exact wVa (v:=.int .i64 g) (w':=w) ho e4 (by simp[execOp,e3,ev,evc,U21]) (by rw[e2];exact go rfl (by decide) (Below.refl _ _) hw rfl)
  ·obtain⟨o',e1,e2,e3,e4,e5⟩:=o2
   obtain rfl:=sOp ho e1
   have dp:=dPo e5 hdep
   have U17:a.tmps.getD 17 undef=.slice (some ⟨B,0,none⟩) m m:=(kp 17 (by decide)).trans u17
   exact wVa (v:=.slice (some ⟨B,0,none⟩) m m) (w':=w) ho e4 (by simp[execOp,e3,ev,evc,U17]) (by rw[e2];exact go rfl (by decide) (Below.refl _ _) hw rfl)
  ·obtain⟨o',e1,e2,e3,e4,e5⟩:=o3
   obtain rfl:=sOp ho e1
   have dp:=dPo e5 hdep
   have U21:a.tmps.getD 21 undef=.int .i64 g:=(kp 21 (by decide)).trans u21
   exact wVa (v:=.int .i64 g) (w':=w) ho e4 (by simp[execOp,e3,ev,evc,U21]) (by rw[e2];exact go rfl (by decide) (Below.refl _ _) hw rfl)
  ·obtain⟨o',e1,e2,e3,e4,e5⟩:=o4
   obtain rfl:=sOp ho e1
   have dp:=dPo e5 hdep
   have V2:a.tmps.getD 100 undef=.slice (some ⟨B,0,none⟩) m m:=hI.val 2 100 (by decide) rfl (dp 2 (by decide))
   have V3:a.tmps.getD 101 undef=.int .i64 g:=hI.val 3 101 (by decide) rfl (dp 3 (by decide))
   exact wVa (v:=.pointer (some ⟨B,g,none⟩)) (w':=w) ho e4 (by simp[execOp,e3,ev,evc,V2,V3,x4 w]) (by rw[e2];exact go rfl (by decide) (Below.refl _ _) hw rfl)
  ·obtain⟨o',e1,e2,e3,e4,e5⟩:=o5
   obtain rfl:=sOp ho e1
   have dp:=dPo e5 hdep
   have V4:a.tmps.getD 102 undef=.pointer (some ⟨B,g,none⟩):=hI.val 4 102 (by decide) rfl (dp 4 (by decide))
   exact wVa (v:=.int .i64 X0) (w':=w) ho e4 (by simp[execOp,e3,ev,evc,V4,x5 w hw]) (by rw[e2];exact go rfl (by decide) (Below.refl _ _) hw rfl)
  ·obtain⟨o',e1,e2,e3,e4,e5⟩:=o6
   obtain rfl:=sOp ho e1
   have dp:=dPo e5 hdep
   have U15:a.tmps.getD 15 undef=.slice (some x) K c1:=(kp 15 (by decide)).trans u15
   exact wVa (v:=.slice (some x) K c1) (w':=w) ho e4 (by simp[execOp,e3,ev,evc,U15]) (by rw[e2];exact go rfl (by decide) (Below.refl _ _) hw rfl)
  ·obtain⟨o',e1,e2,e3,e4,e5⟩:=o7
   obtain rfl:=sOp ho e1
   have dp:=dPo e5 hdep
   have U18:a.tmps.getD 18 undef=.int .i64 j:=(kp 18 (by decide)).trans u18
   exact wVa (v:=.int .i64 j) (w':=w) ho e4 (by simp[execOp,e3,ev,evc,U18]) (by rw[e2];exact go rfl (by decide) (Below.refl _ _) hw rfl)
  ·obtain⟨o',e1,e2,e3,e4,e5⟩:=o8
   obtain rfl:=sOp ho e1
   have dp:=dPo e5 hdep
   have V6:a.tmps.getD 104 undef=.slice (some x) K c1:=hI.val 6 104 (by decide) rfl (dp 6 (by decide))
   have V7:a.tmps.getD 105 undef=.int .i64 j:=hI.val 7 105 (by decide) rfl (dp 7 (by decide))
   exact wVa (v:=.pointer (some (x.add j))) (w':=w) ho e4 (by simp[execOp,e3,ev,evc,V6,V7,x8 w]) (by rw[e2];exact go rfl (by decide) (Below.refl _ _) hw rfl)
  ·obtain⟨o',e1,e2,e3,e4,e5⟩:=o9
   obtain rfl:=sOp ho e1
   have dp:=dPo e5 hdep
   have V8:a.tmps.getD 106 undef=.pointer (some (x.add j)):=hI.val 8 106 (by decide) rfl (dp 8 (by decide))
   exact wVa (v:=.int .i64 X1) (w':=w) ho e4 (by simp[execOp,e3,ev,evc,V8,x9 w hw]) (by rw[e2];exact go rfl (by decide) (Below.refl _ _) hw rfl)
  ·obtain⟨o',e1,e2,e3,e4,e5⟩:=o10
   obtain rfl:=sOp ho e1
   have dp:=dPo e5 hdep
   have U19:a.tmps.getD 19 undef=.slice (some y) m c2:=(kp 19 (by decide)).trans u19
   exact wVa (v:=.slice (some y) m c2) (w':=w) ho e4 (by simp[execOp,e3,ev,evc,U19]) (by rw[e2];exact go rfl (by decide) (Below.refl _ _) hw rfl)
  ·obtain⟨o',e1,e2,e3,e4,e5⟩:=o11
   obtain rfl:=sOp ho e1
   have dp:=dPo e5 hdep
   have U21:a.tmps.getD 21 undef=.int .i64 g:=(kp 21 (by decide)).trans u21
   exact wVa (v:=.int .i64 g) (w':=w) ho e4 (by simp[execOp,e3,ev,evc,U21]) (by rw[e2];exact go rfl (by decide) (Below.refl _ _) hw rfl)
  ·obtain⟨o',e1,e2,e3,e4,e5⟩:=o12
   obtain rfl:=sOp ho e1
   have dp:=dPo e5 hdep
   have V10:a.tmps.getD 108 undef=.slice (some y) m c2:=hI.val 10 108 (by decide) rfl (dp 10 (by decide))
   have V11:a.tmps.getD 109 undef=.int .i64 g:=hI.val 11 109 (by decide) rfl (dp 11 (by decide))
   exact wVa (v:=.pointer (some (y.add g))) (w':=w) ho e4 (by simp[execOp,e3,ev,evc,V10,V11,x12 w]) (by rw[e2];exact go rfl (by decide) (Below.refl _ _) hw rfl)
  ·obtain⟨o',e1,e2,e3,e4,e5⟩:=o13
   obtain rfl:=sOp ho e1
   have dp:=dPo e5 hdep
   have V12:a.tmps.getD 110 undef=.pointer (some (y.add g)):=hI.val 12 110 (by decide) rfl (dp 12 (by decide))
   exact wVa (v:=.int .i64 X2) (w':=w) ho e4 (by simp[execOp,e3,ev,evc,V12,x13 w hw]) (by rw[e2];exact go rfl (by decide) (Below.refl _ _) hw rfl)
  ·obtain⟨o',e1,e2,e3,e4,e5⟩:=o14
   obtain rfl:=sOp ho e1
   have dp:=dPo e5 hdep
   have V9:a.tmps.getD 107 undef=.int .i64 X1:=hI.val 9 107 (by decide) rfl (dp 9 (by decide))
   have V13:a.tmps.getD 111 undef=.int .i64 X2:=hI.val 13 111 (by decide) rfl (dp 13 (by decide))
   exact wVa (v:=.int .i64 X3) (w':=w) ho e4 (by simp[execOp,e3,ev,evc,V9,V13,x14 w,eqGuard]) (by rw[e2];exact go rfl (by decide) (Below.refl _ _) hw rfl)
  ·obtain⟨o',e1,e2,e3,e4,e5⟩:=o15
   obtain rfl:=sOp ho e1
   have dp:=dPo e5 hdep
   have V5:a.tmps.getD 103 undef=.int .i64 X0:=hI.val 5 103 (by decide) rfl (dp 5 (by decide))
   have V14:a.tmps.getD 112 undef=.int .i64 X3:=hI.val 14 112 (by decide) rfl (dp 14 (by decide))
   refine wCa (f:=72) (args:=#[.int .i64 X0,.int .i64 X3]) ho e4 (by simp[execOp,e3,resolve,invoke,Deferred.ofValue,r24,ev,evf,evc,V5,V14]) ((x15 w hw).mono ?_)
   rintro e W' ⟨rfl,hq⟩;obtain rfl:=hq.symm
   refine⟨_,rfl,?_⟩
   rw[e2]
   exact go rfl (by decide) (Below.refl _ _) hw rfl
  ·obtain⟨o',e1,e2,e3,e4,e5⟩:=o16
   obtain rfl:=sOp ho e1
   have dp:=dPo e5 hdep
   have V0:a.tmps.getD 98 undef=.slice (some ⟨B,0,none⟩) m m:=hI.val 0 98 (by decide) rfl (dp 0 (by decide))
   have V1:a.tmps.getD 99 undef=.int .i64 g:=hI.val 1 99 (by decide) rfl (dp 1 (by decide))
   exact wVa (v:=.pointer (some ⟨B,g,none⟩)) (w':=w) ho e4 (by simp[execOp,e3,ev,evc,V0,V1,x16 w]) (by rw[e2];exact go rfl (by decide) (Below.refl _ _) hw rfl)
  ·have hdp:=hdep
   obtain⟨o',e1,e2,e3,e4,e5⟩:=o17
   obtain rfl:=sOp ho e1
   have dp:=dPo e5 hdep
   have d15:l 15=true:=dp 15 (by decide)
   have d16:l 16=true:=dp 16 (by decide)
   have d5:l 5=true:=hcl.dep' o15 d15 5 (by decide)
   have d14:l 14=true:=hcl.dep' o15 d15 14 (by decide)
   have d0:l 0=true:=hcl.dep' o16 d16 0 (by decide)
   have d1:l 1=true:=hcl.dep' o16 d16 1 (by decide)
   have d4:l 4=true:=hcl.dep' o5 d5 4 (by decide)
   have d9:l 9=true:=hcl.dep' o14 d14 9 (by decide)
   have d13:l 13=true:=hcl.dep' o14 d14 13 (by decide)
   have d2:l 2=true:=hcl.dep' o4 d4 2 (by decide)
   have d3:l 3=true:=hcl.dep' o4 d4 3 (by decide)
   have d8:l 8=true:=hcl.dep' o9 d9 8 (by decide)
   have d12:l 12=true:=hcl.dep' o13 d13 12 (by decide)
   have d6:l 6=true:=hcl.dep' o8 d8 6 (by decide)
   have d7:l 7=true:=hcl.dep' o8 d8 7 (by decide)
   have d10:l 10=true:=hcl.dep' o12 d12 10 (by decide)
   have d11:l 11=true:=hcl.dep' o12 d12 11 (by decide)
   have all:∀ j,j<17→l j=true:=by
    intro j hj
    rcases (show j=0∨j=1∨j=2∨j=3∨j=4∨j=5∨j=6∨j=7∨j=8∨j=9∨j=10∨j=11∨j=12∨j=13∨j=14∨j=15∨j=16 by omega) with rfl|rfl|rfl|rfl|rfl|rfl|rfl|rfl|rfl|rfl|rfl|rfl|rfl|rfl|rfl|rfl|rfl<;>assumption
   obtain⟨w',hst,hq⟩:=fin a w hI.size hI.defers hI.kept hI.world (fun i d hi hD=>hI.val i d (by omega) hD (all i hi))
   obtain⟨p1,ep1⟩:∃ p,a.tmps.getD 114 undef=p:=⟨_,rfl⟩
   obtain⟨p2,ep2⟩:∃ p,a.tmps.getD 113 undef=p:=⟨_,rfl⟩
   rw[ep1,ep2] at hst
   refine wSk (w':=w') ho e4 (by simp[execOp,e3,ev,ep1,ep2,hst]) ?_
   rw[e2]
   exact .inl ⟨by simp,hq⟩
 ·intro l a w hall hI
  rcases hI with⟨-,hq⟩|⟨h,-⟩
  ·exact hq
  ·rw[hall 17 (by rw[hsz];decide)] at h
   cases h
end Go.Proofs.YthliomlmhfjhnaaGreat
