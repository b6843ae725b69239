/- Texts put together. -/
import Derived.Test.YthliomlmhfjhnaaGreatZp0
import Derived.Test.YthliomlmhfjhnaaGreatZp3
import Derived.Test.YthliomlmhfjhnaaGreatZp4
namespace Go.Proofs.YthliomlmhfjhnaaGreat
set_option maxRecDepth 20000
set_option maxHeartbeats 16000000
open Go.ChangeShapes Go.WideShapes Go.ChangeAt Go.RowKit
set_option linter.unusedVariables false
set_option linter.unusedSimpArgs false
def roD (i:Nat):Option Nat:=match i with|0=>some 36|1=>some 37|2=>some 38|3=>some 39|4=>some 40|5=>some 41|6=>some 42|7=>some 43|8=>some 44|9=>some 45|10=>some 46|11=>some 12|12=>some 13|_=>none
theorem Qm5:∀ i,i<13→∀ j,j<13→roD i=roD j→roD i≠none→i=j:=by decide
theorem QnX:∀ i,i<13→∀ d,roD i=some d→d<131:=by
 intro i hi d h
 have:∀ i,i<13→(roD i).all (fun d=>decide (d<131))=true:=by decide
 have:=this i hi
 rw[h] at this
 simpa using this
def roF (x y:Addr)(n c1 c2 un uc dn dc m xc:Nat)(ua da xa:Option Addr)(hh:Int)(O:List Int)(EE:Int)(i:Nat)(q:Value)(w:World):Prop:=match i with
 | 0=>q=.slice (some x) n c1
 | 1=>q=.pointer (some x)
 | 2=>q=.slice ua un uc
 | 3=>q=.slice (some y) n c2
 | 4=>q=.pointer (some y)
 | 5=>q=.slice da dn dc
 | 6=>q=I4 hh
 | 7=>q=.slice xa m xc
 | 8=>∃ b bn bc,q=.tuple #[.slice b bn bc,I4 EE]∧Reads .i64 w b bn O
 | 9=>∃ b bn bc,q=.slice b bn bc∧Reads .i64 w b bn O
 | 10=>q=I4 EE
 | 11=>∃ b bn bc,q=.slice b bn bc∧Reads .i64 w b bn O
 | 12=>q=I4 EE
 | _=>True
theorem QkM {x y:Addr}{n c1 c2 un uc dn dc m xc:Nat}{ua da xa:Option Addr}{hh:Int}{O:List Int}{EE:Int}{i:Nat}{q:Value}{w w':World}(h:roF x y n c1 c2 un uc dn dc m xc ua da xa hh O EE i q w)(hb:Bw w w'):roF x y n c1 c2 un uc dn dc m xc ua da xa hh O EE i q w':=by
 unfold roF at h ⊢
 split
 ·exact h
 ·exact h
 ·exact h
 ·exact h
 ·exact h
 ·exact h
 ·exact h
 ·exact h
 ·obtain⟨b,bn,bc,h1,h2⟩:=h;exact⟨b,bn,bc,h1,h2.below hb⟩
 ·obtain⟨b,bn,bc,h1,h2⟩:=h;exact⟨b,bn,bc,h1,h2.below hb⟩
 ·exact h
 ·obtain⟨b,bn,bc,h1,h2⟩:=h;exact⟨b,bn,bc,h1,h2.below hb⟩
 ·exact h
 ·trivial
theorem QkL {id:Nat}{ops:Array Oper}{Q:Exit→Act→World→Prop}{a0:Act}{w0:World}(x y:Addr)(n c1 c2 un uc dn dc m xc:Nat)(ua da xa:Option Addr)(hh:Int)(O:List Int)(EE:Int)(S:World→Prop)(hlow:lowB ops=true)(hsz:ops.size=13)
  (oo:OpS ops 0 36 (.move (.tmp 1)) []∧OpS ops 1 37 (.indexAddr 63 (.tmp 36) (.const (I4 0))) [0]∧OpS ops 2 38 (.load 24 (.tmp 37)) [1]∧OpS ops 3 39 (.move (.tmp 2)) []∧OpS ops 4 40 (.indexAddr 63 (.tmp 39) (.const (I4 0))) [3]∧OpS ops 5 41 (.load 24 (.tmp 40)) [4]∧OpS ops 6 42 (.move (.tmp 3)) []∧OpS ops 7 43 (.move (.tmp 5)) []∧OpS ops 8 44 (.call { callee:=.value (.func 110),args:=#[.tmp 38,.tmp 41,.tmp 42,.tmp 43],argTypes:=#[24,24,3,34] }) [2,5,6,7]∧OpS ops 9 45 (.extract (.tmp 44) 0) [8]∧OpS ops 10 46 (.extract (.tmp 44) 1) [8]∧OpS ops 11 12 (.assign (.tmp 45)) [9]∧OpS ops 12 13 (.assign (.tmp 46)) [10])
  (hS:S w0.drew)
  (x1:∀ w,(Instr.indexAt 63 (.slice (some x) n c1) (I4 0)).run Tryz.prog w=.ok (.pointer (some x)) w)
  (x2:∀ w,S w→(Instr.loadAt 24 (.pointer (some x))).run Tryz.prog w=.ok (.slice ua un uc) w)
  (x4:∀ w,(Instr.indexAt 63 (.slice (some y) n c2) (I4 0)).run Tryz.prog w=.ok (.pointer (some y)) w)
  (x5:∀ w,S w→(Instr.loadAt 24 (.pointer (some y))).run Tryz.prog w=.ok (.slice da dn dc) w)
  (x8:∀ w,S w→Calls Tryz.prog 110 #[.slice ua un uc,.slice da dn dc,I4 hh,.slice xa m xc] w fun e w'=>∃ b bn bc,e=.returned (.tuple #[.slice b bn bc,I4 EE])∧Reads .i64 w' b bn O∧Bw w w'∧S w')
  (u1:a0.tmps.getD 1 undef=.slice (some x) n c1)
  (u2:a0.tmps.getD 2 undef=.slice (some y) n c2)
  (u3:a0.tmps.getD 3 undef=I4 hh)
  (u5:a0.tmps.getD 5 undef=.slice xa m xc)
  (hs:131≤a0.tmps.size)
  (fin:∀ a w,a.tmps.size=a0.tmps.size→a.defers=a0.defers→(∀ s,(∀ i,i<13→roD i≠some s)→a.tmps.getD s undef=a0.tmps.getD s undef)→S w→(∀ i d,i<13→roD i=some d→roF x y n c1 c2 un uc dn dc m xc ua da xa hh O EE i (a.tmps.getD d undef) w)→Q .normal a w):(Code.region id ops true).wp Tryz.prog Q a0 w0:=by
 obtain⟨o0,o1,o2,o3,o4,o5,o6,o7,o8,o9,o10,o11,o12⟩:=oo
 have r17:∀ args w,(callFunc 110 args).run Tryz.prog w=.ok (.enter 110 args) w:=eNo Tryz.func110 (by kernel_rfl) rfl
 refine wRi (by kernel_rfl) hlow (Inv 13 roD a0 (fun _ _ w=>S w) (fun _=>roF x y n c1 c2 un uc dn dc m xc ua da xa hh O EE)) (Inv.start hS) ?_ ?_
 ·intro l i o a w ho hl hcl hdep hI
  have hi:i<13:=by rw[←hsz];exact (Array.getElem?_eq_some_iff.1 ho).1
  have ev:∀ (s:Nat),a.eval (.tmp s)=a.tmps.getD s undef:=fun _=>rfl
  have evf:∀ f,a.eval (.func f)=.func (.func f) #[] #[]:=fun _=>rfl
  have evc:∀ c:Value,a.eval (.const c)=c:=fun _=>rfl
  have inj:∀ d,roD i=some d→∀ j d',j<13→roD j=some d'→j≠i→d'≠d:=fun d hd j d' hj hd' hne e=>hne (Qm5 j hj i hi (by rw[hd',hd,e]) (by rw[hd'];simp))
  have kp:∀ s,(∀ i,i<13→roD i≠some s)→a.tmps.getD s undef=a0.tmps.getD s undef:=hI.kept
  have hw:S w:=hI.world
  have go:∀ {d:Nat}{v:Value}{w':World},roD i=some d→Bw w w'→S w'→roF x y n c1 c2 un uc dn dc m xc ua da xa hh O EE i v w'→Inv 13 roD a0 (fun _ _ w=>S w) (fun _=>roF x y n c1 c2 un uc dn dc m xc ua da xa hh O EE) (fun j=>l j || j==i) (a.put (some d) v) w':=by
   intro d v w' hD hb hS' hF
   exact hI.put hi hD (Nat.lt_of_lt_of_le (QnX i hi d hD) hs) (inj d hD) hS' hF (fun j u _ _ _ hf=>QkM hf hb)
  rcases l13 (show i<13 by omega) with rfl|rfl|rfl|rfl|rfl|rfl|rfl|rfl|rfl|rfl|rfl|rfl|rfl
  ·obtain⟨e2,e3,e4,dp⟩:=o0.at_ ho hdep
   have U1:=(kp 1 (by decide)).trans u1
   exact wVa (v:=.slice (some x) n c1) (w':=w) ho e4 (by simp[execOp,e3,ev,evc,U1]) (by rw[e2];exact go rfl bR hw rfl)
  ·obtain⟨e2,e3,e4,dp⟩:=o1.at_ ho hdep
   have V0:tm a 36=_:=hI.vl dp 0 36 rfl rfl
   exact wVa (v:=.pointer (some x)) (w':=w) ho e4 (by simp[execOp,e3,ev,evc,V0,x1 w]) (by rw[e2];exact go rfl bR hw rfl)
  ·obtain⟨e2,e3,e4,dp⟩:=o2.at_ ho hdep
   have V1:tm a 37=_:=hI.vl dp 1 37 rfl rfl
   exact wVa (v:=.slice ua un uc) (w':=w) ho e4 (by simp[execOp,e3,ev,evc,V1,x2 w hw]) (by rw[e2];exact go rfl bR hw rfl)
  ·obtain⟨e2,e3,e4,dp⟩:=o3.at_ ho hdep
   have U2:=(kp 2 (by decide)).trans u2
   exact wVa (v:=.slice (some y) n c2) (w':=w) ho e4 (by simp[execOp,e3,ev,evc,U2]) (by rw[e2];exact go rfl bR hw rfl)
  ·obtain⟨e2,e3,e4,dp⟩:=o4.at_ ho hdep
   have V3:tm a 39=_:=hI.vl dp 3 39 rfl rfl
   exact wVa (v:=.pointer (some y)) (w':=w) ho e4 (by simp[execOp,e3,ev,evc,V3,x4 w]) (by rw[e2];exact go rfl bR hw rfl)
  ·obtain⟨e2,e3,e4,dp⟩:=o5.at_ ho hdep
   have V4:tm a 40=_:=hI.vl dp 4 40 rfl rfl
   exact wVa (v:=.slice da dn dc) (w':=w) ho e4 (by simp[execOp,e3,ev,evc,V4,x5 w hw]) (by rw[e2];exact go rfl bR hw rfl)
  ·obtain⟨e2,e3,e4,dp⟩:=o6.at_ ho hdep
   have U3:=(kp 3 (by decide)).trans u3
   exact wVa (v:=I4 hh) (w':=w) ho e4 (by simp[execOp,e3,ev,evc,U3]) (by rw[e2];exact go rfl bR hw rfl)
  ·obtain⟨e2,e3,e4,dp⟩:=o7.at_ ho hdep
   have U5:=(kp 5 (by decide)).trans u5
   exact wVa (v:=.slice xa m xc) (w':=w) ho e4 (by simp[execOp,e3,ev,evc,U5]) (by rw[e2];exact go rfl bR hw rfl)
  ·obtain⟨e2,e3,e4,dp⟩:=o8.at_ ho hdep
   have V2:tm a 38=_:=hI.vl dp 2 38 rfl rfl
   have V5:tm a 41=_:=hI.vl dp 5 41 rfl rfl
   have V6:tm a 42=_:=hI.vl dp 6 42 rfl rfl
   have V7:tm a 43=_:=hI.vl dp 7 43 rfl rfl
   refine wCa (f:=110) (args:=#[.slice ua un uc,.slice da dn dc,I4 hh,.slice xa m xc]) ho e4 (by simp[execOp,e3,resolve,invoke,Deferred.ofValue,r17,ev,evf,evc,V2,V5,V6,V7]) ((x8 w hw).mono ?_)
   rintro e W' ⟨b,bn,bc,rfl,hr6,hb6,hs6⟩
   refine⟨_,rfl,?_⟩
   rw[e2]
   exact go rfl hb6 hs6 ⟨b,bn,bc,rfl,hr6⟩
  ·obtain⟨e2,e3,e4,dp⟩:=o9.at_ ho hdep
   obtain⟨b8,n8,c8,V8,f8⟩:=hI.vl dp 8 44 rfl rfl
   exact wVa (v:=.slice b8 n8 c8) (w':=w) ho e4 (by simp[execOp,e3,ev,evc,V8,Instr.extract]) (by rw[e2];exact go rfl bR hw ⟨_,_,_,rfl,f8⟩)
  ·obtain⟨e2,e3,e4,dp⟩:=o10.at_ ho hdep
   obtain⟨b8,n8,c8,V8,f8⟩:=hI.vl dp 8 44 rfl rfl
   exact wVa (v:=I4 EE) (w':=w) ho e4 (by simp[execOp,e3,ev,evc,V8,Instr.extract]) (by rw[e2];exact go rfl bR hw rfl)
  ·obtain⟨e2,e3,e4,dp⟩:=o11.at_ ho hdep
   obtain⟨b9,n9,c9,V9,f9⟩:=hI.vl dp 9 45 rfl rfl
   exact wVa (v:=.slice b9 n9 c9) (w':=w) ho e4 (by simp[execOp,e3,ev,evc,V9]) (by rw[e2];exact go rfl bR hw ⟨_,_,_,rfl,f9⟩)
  ·obtain⟨e2,e3,e4,dp⟩:=o12.at_ ho hdep
   have V10:tm a 46=_:=hI.vl dp 10 46 rfl rfl
   exact wVa (v:=I4 EE) (w':=w) ho e4 (by simp[execOp,e3,ev,evc,V10]) (by rw[e2];exact go rfl bR hw rfl)
 ·intro l a w hall hI
  have all:∀ j,j<13→l j=true:=fun j hj=>hall j (by rw[hsz];exact hj)
  exact fin a w hI.size hI.defers hI.kept hI.world (fun i d hi hD=>hI.val i d hi hD (all i hi))
def rpD (i:Nat):Option Nat:=match i with|0=>some 70|1=>some 71|2=>some 72|3=>some 73|4=>some 74|5=>some 75|6=>some 76|7=>some 77|8=>some 78|9=>some 79|10=>some 80|11=>some 81|12=>some 82|13=>some 83|14=>some 84|15=>some 85|16=>some 86|17=>some 69|18=>some 87|19=>some 88|20=>some 19|21=>some 20|_=>none
theorem Qm4:∀ i,i<22→∀ j,j<22→rpD i=rpD j→rpD i≠none→i=j:=by decide
theorem QnW:∀ i,i<22→∀ d,rpD i=some d→d<131:=by
 intro i hi d h
 have:∀ i,i<22→(rpD i).all (fun d=>decide (d<131))=true:=by decide
 have:=this i hi
 rw[h] at this
 simpa using this
def rpF (x y:Addr)(n c1 c2 un uc dn dc m xc:Nat)(ua da xa:Option Addr)(hh:Int)(t:Addr)(K ct g p B:Nat)(O:List Int)(EE:Int)(i:Nat)(q:Value)(w:World):Prop:=match i with
 | 0=>q=.slice (some x) n c1
 | 1=>q=.slice (some t) K ct
 | 2=>q=I4 g
 | 3=>q=.pointer (some (t.add g))
 | 4=>q=I4 p
 | 5=>q=.pointer (some (x.add p))
 | 6=>q=.slice ua un uc
 | 7=>q=.slice (some y) n c2
 | 8=>q=.slice (some t) K ct
 | 9=>q=I4 g
 | 10=>q=.pointer (some (t.add g))
 | 11=>q=I4 p
 | 12=>q=.pointer (some (y.add p))
 | 13=>q=.slice da dn dc
 | 14=>q=I4 hh
 | 15=>q=.slice xa m xc
 | 16=>∃ b bn bc,q=.tuple #[.slice b bn bc,I4 EE]∧Reads .i64 w b bn O∧∀ x,b=some x→x.block≠B
 | 17=>∃ b bn bc,q=.tuple #[.slice b bn bc,I4 EE]∧Reads .i64 w b bn O∧∀ x,b=some x→x.block≠B
 | 18=>∃ b bn bc,q=.slice b bn bc∧Reads .i64 w b bn O∧∀ x,b=some x→x.block≠B
 | 19=>q=I4 EE
 | 20=>∃ b bn bc,q=.slice b bn bc∧Reads .i64 w b bn O∧∀ x,b=some x→x.block≠B
 | 21=>q=I4 EE
 | _=>True
theorem QkI {x y:Addr}{n c1 c2 un uc dn dc m xc:Nat}{ua da xa:Option Addr}{hh:Int}{t:Addr}{K ct g p B:Nat}{O:List Int}{EE:Int}{i:Nat}{q:Value}{w w':World}(h:rpF x y n c1 c2 un uc dn dc m xc ua da xa hh t K ct g p B O EE i q w)(hb:Bw w w'):rpF x y n c1 c2 un uc dn dc m xc ua da xa hh t K ct g p B O EE i q w':=by
 unfold rpF at h ⊢
 split
 ·exact h
 ·exact h
 ·exact h
 ·exact h
 ·exact h
 ·exact h
 ·exact h
 ·exact h
 ·exact h
 ·exact h
 ·exact h
 ·exact h
 ·exact h
 ·exact h
 ·exact h
 ·exact h
 ·obtain⟨b,bn,bc,h1,h2,h3⟩:=h;exact⟨b,bn,bc,h1,h2.below hb,h3⟩
 ·obtain⟨b,bn,bc,h1,h2,h3⟩:=h;exact⟨b,bn,bc,h1,h2.below hb,h3⟩
 ·obtain⟨b,bn,bc,h1,h2,h3⟩:=h;exact⟨b,bn,bc,h1,h2.below hb,h3⟩
 ·exact h
 ·obtain⟨b,bn,bc,h1,h2,h3⟩:=h;exact⟨b,bn,bc,h1,h2.below hb,h3⟩
 ·exact h
 ·trivial
theorem QkH {id:Nat}{ops:Array Oper}{Q:Exit→Act→World→Prop}{a0:Act}{w0:World}(x y:Addr)(n c1 c2 un uc dn dc m xc:Nat)(ua da xa:Option Addr)(hh:Int)(t:Addr)(K ct g p B:Nat)(O:List Int)(EE:Int)(S:World→Prop)(hlow:lowB ops=true)(hsz:ops.size=22)
  (oo:OpS ops 0 70 (.move (.tmp 1)) []∧OpS ops 1 71 (.move (.tmp 14)) []∧OpS ops 2 72 (.move (.tmp 18)) []∧OpS ops 3 73 (.indexAddr 45 (.tmp 71) (.tmp 72)) [1,2]∧OpS ops 4 74 (.load 3 (.tmp 73)) [3]∧OpS ops 5 75 (.indexAddr 63 (.tmp 70) (.tmp 74)) [0,4]∧OpS ops 6 76 (.load 24 (.tmp 75)) [5]∧OpS ops 7 77 (.move (.tmp 2)) []∧OpS ops 8 78 (.move (.tmp 14)) []∧OpS ops 9 79 (.move (.tmp 18)) []∧OpS ops 10 80 (.indexAddr 45 (.tmp 78) (.tmp 79)) [8,9]∧OpS ops 11 81 (.load 3 (.tmp 80)) [10]∧OpS ops 12 82 (.indexAddr 63 (.tmp 77) (.tmp 81)) [7,11]∧OpS ops 13 83 (.load 24 (.tmp 82)) [12]∧OpS ops 14 84 (.move (.tmp 3)) []∧OpS ops 15 85 (.move (.tmp 5)) []∧OpS ops 16 86 (.call { callee:=.value (.func 110),args:=#[.tmp 76,.tmp 83,.tmp 84,.tmp 85],argTypes:=#[24,24,3,34] }) [6,13,14,15]∧OpS ops 17 69 (.move (.tmp 86)) [16]∧OpS ops 18 87 (.extract (.tmp 69) 0) [17]∧OpS ops 19 88 (.extract (.tmp 69) 1) [17]∧OpS ops 20 19 (.assign (.tmp 87)) [18]∧OpS ops 21 20 (.assign (.tmp 88)) [19])
  (hS:S w0.drew)
  (x3:∀ w,(Instr.indexAt 45 (.slice (some t) K ct) (I4 g)).run Tryz.prog w=.ok (.pointer (some (t.add g))) w)
  (x4:∀ w,S w→(Instr.loadAt 3 (.pointer (some (t.add g)))).run Tryz.prog w=.ok (I4 p) w)
  (x5:∀ w,(Instr.indexAt 63 (.slice (some x) n c1) (I4 p)).run Tryz.prog w=.ok (.pointer (some (x.add p))) w)
  (x6:∀ w,S w→(Instr.loadAt 24 (.pointer (some (x.add p)))).run Tryz.prog w=.ok (.slice ua un uc) w)
  (x10:∀ w,(Instr.indexAt 45 (.slice (some t) K ct) (I4 g)).run Tryz.prog w=.ok (.pointer (some (t.add g))) w)
  (x11:∀ w,S w→(Instr.loadAt 3 (.pointer (some (t.add g)))).run Tryz.prog w=.ok (I4 p) w)
  (x12:∀ w,(Instr.indexAt 63 (.slice (some y) n c2) (I4 p)).run Tryz.prog w=.ok (.pointer (some (y.add p))) w)
  (x13:∀ w,S w→(Instr.loadAt 24 (.pointer (some (y.add p)))).run Tryz.prog w=.ok (.slice da dn dc) w)
  (x16:∀ w,S w→Calls Tryz.prog 110 #[.slice ua un uc,.slice da dn dc,I4 hh,.slice xa m xc] w fun e w'=>∃ b bn bc,e=.returned (.tuple #[.slice b bn bc,I4 EE])∧Reads .i64 w' b bn O∧(∀ x,b=some x→x.block≠B)∧Bw w w'∧S w')
  (u1:a0.tmps.getD 1 undef=.slice (some x) n c1)
  (u2:a0.tmps.getD 2 undef=.slice (some y) n c2)
  (u3:a0.tmps.getD 3 undef=I4 hh)
  (u5:a0.tmps.getD 5 undef=.slice xa m xc)
  (u14:a0.tmps.getD 14 undef=.slice (some t) K ct)
  (u18:a0.tmps.getD 18 undef=I4 g)
  (hs:131≤a0.tmps.size)
  (fin:∀ a w,a.tmps.size=a0.tmps.size→a.defers=a0.defers→(∀ s,(∀ i,i<22→rpD i≠some s)→a.tmps.getD s undef=a0.tmps.getD s undef)→S w→(∀ i d,i<22→rpD i=some d→rpF x y n c1 c2 un uc dn dc m xc ua da xa hh t K ct g p B O EE i (a.tmps.getD d undef) w)→Q .normal a w):(Code.region id ops true).wp Tryz.prog Q a0 w0:=by
 obtain⟨o0,o1,o2,o3,o4,o5,o6,o7,o8,o9,o10,o11,o12,o13,o14,o15,o16,o17,o18,o19,o20,o21⟩:=oo
 have r17:∀ args w,(callFunc 110 args).run Tryz.prog w=.ok (.enter 110 args) w:=eNo Tryz.func110 (by kernel_rfl) rfl
 refine wRi (by kernel_rfl) hlow (Inv 22 rpD a0 (fun _ _ w=>S w) (fun _=>rpF x y n c1 c2 un uc dn dc m xc ua da xa hh t K ct g p B O EE)) (Inv.start hS) ?_ ?_
 ·intro l i o a w ho hl hcl hdep hI
  have hi:i<22:=by rw[←hsz];exact (Array.getElem?_eq_some_iff.1 ho).1
  have ev:∀ (s:Nat),a.eval (.tmp s)=a.tmps.getD s undef:=fun _=>rfl
  have evf:∀ f,a.eval (.func f)=.func (.func f) #[] #[]:=fun _=>rfl
  have evc:∀ c:Value,a.eval (.const c)=c:=fun _=>rfl
  have inj:∀ d,rpD i=some d→∀ j d',j<22→rpD j=some d'→j≠i→d'≠d:=fun d hd j d' hj hd' hne e=>hne (Qm4 j hj i hi (by rw[hd',hd,e]) (by rw[hd'];simp))
  have kp:∀ s,(∀ i,i<22→rpD i≠some s)→a.tmps.getD s undef=a0.tmps.getD s undef:=hI.kept
  have hw:S w:=hI.world
  have go:∀ {d:Nat}{v:Value}{w':World},rpD i=some d→Bw w w'→S w'→rpF x y n c1 c2 un uc dn dc m xc ua da xa hh t K ct g p B O EE i v w'→Inv 22 rpD a0 (fun _ _ w=>S w) (fun _=>rpF x y n c1 c2 un uc dn dc m xc ua da xa hh t K ct g p B O EE) (fun j=>l j || j==i) (a.put (some d) v) w':=by
   intro d v w' hD hb hS' hF
   exact hI.put hi hD (Nat.lt_of_lt_of_le (QnW i hi d hD) hs) (inj d hD) hS' hF (fun j u _ _ _ hf=>QkI hf hb)
  rcases l22 (show i<22 by omega) with rfl|rfl|rfl|rfl|rfl|rfl|rfl|rfl|rfl|rfl|rfl|rfl|rfl|rfl|rfl|rfl|rfl|rfl|rfl|rfl|rfl|rfl
  ·obtain⟨e2,e3,e4,dp⟩:=o0.at_ ho hdep
   have U1:=(kp 1 (by decide)).trans u1
   exact wVa (v:=.slice (some x) n c1) (w':=w) ho e4 (by simp[execOp,e3,ev,evc,U1]) (by rw[e2];exact go rfl bR hw rfl)
  ·obtain⟨e2,e3,e4,dp⟩:=o1.at_ ho hdep
   have U14:=(kp 14 (by decide)).trans u14
   exact wVa (v:=.slice (some t) K ct) (w':=w) ho e4 (by simp[execOp,e3,ev,evc,U14]) (by rw[e2];exact go rfl bR hw rfl)
  ·obtain⟨e2,e3,e4,dp⟩:=o2.at_ ho hdep
   have U18:=(kp 18 (by decide)).trans u18
   exact wVa (v:=I4 g) (w':=w) ho e4 (by simp[execOp,e3,ev,evc,U18]) (by rw[e2];exact go rfl bR hw rfl)
  ·obtain⟨e2,e3,e4,dp⟩:=o3.at_ ho hdep
   have V1:tm a 71=_:=hI.vl dp 1 71 rfl rfl
   have V2:tm a 72=_:=hI.vl dp 2 72 rfl rfl
   exact wVa (v:=.pointer (some (t.add g))) (w':=w) ho e4 (by simp[execOp,e3,ev,evc,V1,V2,x3 w]) (by rw[e2];exact go rfl bR hw rfl)
  ·obtain⟨e2,e3,e4,dp⟩:=o4.at_ ho hdep
   have V3:tm a 73=_:=hI.vl dp 3 73 rfl rfl
   exact wVa (v:=I4 p) (w':=w) ho e4 (by simp[execOp,e3,ev,evc,V3,x4 w hw]) (by rw[e2];exact go rfl bR hw rfl)
  ·obtain⟨e2,e3,e4,dp⟩:=o5.at_ ho hdep
   have V0:tm a 70=_:=hI.vl dp 0 70 rfl rfl
   have V4:tm a 74=_:=hI.vl dp 4 74 rfl rfl
   exact wVa (v:=.pointer (some (x.add p))) (w':=w) ho e4 (by simp[execOp,e3,ev,evc,V0,V4,x5 w]) (by rw[e2];exact go rfl bR hw rfl)
  ·obtain⟨e2,e3,e4,dp⟩:=o6.at_ ho hdep
   have V5:tm a 75=_:=hI.vl dp 5 75 rfl rfl
   exact wVa (v:=.slice ua un uc) (w':=w) ho e4 (by simp[execOp,e3,ev,evc,V5,x6 w hw]) (by rw[e2];exact go rfl bR hw rfl)
  ·obtain⟨e2,e3,e4,dp⟩:=o7.at_ ho hdep
   have U2:=(kp 2 (by decide)).trans u2
   exact wVa (v:=.slice (some y) n c2) (w':=w) ho e4 (by simp[execOp,e3,ev,evc,U2]) (by rw[e2];exact go rfl bR hw rfl)
  ·obtain⟨e2,e3,e4,dp⟩:=o8.at_ ho hdep
   have U14:=(kp 14 (by decide)).trans u14
   exact wVa (v:=.slice (some t) K ct) (w':=w) ho e4 (by simp[execOp,e3,ev,evc,U14]) (by rw[e2];exact go rfl bR hw rfl)
  ·obtain⟨e2,e3,e4,dp⟩:=o9.at_ ho hdep
   have U18:=(kp 18 (by decide)).trans u18
   exact wVa (v:=I4 g) (w':=w) ho e4 (by simp[execOp,e3,ev,evc,U18]) (by rw[e2];exact go rfl bR hw rfl)
  ·obtain⟨e2,e3,e4,dp⟩:=o10.at_ ho hdep
   have V8:tm a 78=_:=hI.vl dp 8 78 rfl rfl
   have V9:tm a 79=_:=hI.vl dp 9 79 rfl rfl
   exact wVa (v:=.pointer (some (t.add g))) (w':=w) ho e4 (by simp[execOp,e3,ev,evc,V8,V9,x10 w]) (by rw[e2];exact go rfl bR hw rfl)
  ·obtain⟨e2,e3,e4,dp⟩:=o11.at_ ho hdep
   have V10:tm a 80=_:=hI.vl dp 10 80 rfl rfl
   exact wVa (v:=I4 p) (w':=w) ho e4 (by simp[execOp,e3,ev,evc,V10,x11 w hw]) (by rw[e2];exact go rfl bR hw rfl)
  ·obtain⟨e2,e3,e4,dp⟩:=o12.at_ ho hdep
   have V7:tm a 77=_:=hI.vl dp 7 77 rfl rfl
   have V11:tm a 81=_:=hI.vl dp 11 81 rfl rfl
   exact wVa (v:=.pointer (some (y.add p))) (w':=w) ho e4 (by simp[execOp,e3,ev,evc,V7,V11,x12 w]) (by rw[e2];exact go rfl bR hw rfl)
  ·obtain⟨e2,e3,e4,dp⟩:=o13.at_ ho hdep
   have V12:tm a 82=_:=hI.vl dp 12 82 rfl rfl
   exact wVa (v:=.slice da dn dc) (w':=w) ho e4 (by simp[execOp,e3,ev,evc,V12,x13 w hw]) (by rw[e2];exact go rfl bR hw rfl)
  ·obtain⟨e2,e3,e4,dp⟩:=o14.at_ ho hdep
   have U3:=(kp 3 (by decide)).trans u3
   exact wVa (v:=I4 hh) (w':=w) ho e4 (by simp[execOp,e3,ev,evc,U3]) (by rw[e2];exact go rfl bR hw rfl)
  ·obtain⟨e2,e3,e4,dp⟩:=o15.at_ ho hdep
   have U5:=(kp 5 (by decide)).trans u5
   exact wVa (v:=.slice xa m xc) (w':=w) ho e4 (by simp[execOp,e3,ev,evc,U5]) (by rw[e2];exact go rfl bR hw rfl)
  ·obtain⟨e2,e3,e4,dp⟩:=o16.at_ ho hdep
   have V6:tm a 76=_:=hI.vl dp 6 76 rfl rfl
   have V13:tm a 83=_:=hI.vl dp 13 83 rfl rfl
   have V14:tm a 84=_:=hI.vl dp 14 84 rfl rfl
   have V15:tm a 85=_:=hI.vl dp 15 85 rfl rfl
   refine wCa (f:=110) (args:=#[.slice ua un uc,.slice da dn dc,I4 hh,.slice xa m xc]) ho e4 (by simp[execOp,e3,resolve,invoke,Deferred.ofValue,r17,ev,evf,evc,V6,V13,V14,V15]) ((x16 w hw).mono ?_)
   rintro e W' ⟨b,bn,bc,rfl,hr6,hz6,hb6,hs6⟩
   refine⟨_,rfl,?_⟩
   rw[e2]
   exact go rfl hb6 hs6 ⟨b,bn,bc,rfl,hr6,hz6⟩
  ·obtain⟨e2,e3,e4,dp⟩:=o17.at_ ho hdep
   obtain⟨b16,n16,c16,V16,f16,z16⟩:=hI.vl dp 16 86 rfl rfl
   exact wVa (v:=.tuple #[.slice b16 n16 c16,I4 EE]) (w':=w) ho e4 (by simp[execOp,e3,ev,evc,V16]) (by rw[e2];exact go rfl bR hw ⟨_,_,_,rfl,f16,z16⟩)
  ·obtain⟨e2,e3,e4,dp⟩:=o18.at_ ho hdep
   obtain⟨b17,n17,c17,V17,f17,z17⟩:=hI.vl dp 17 69 rfl rfl
   exact wVa (v:=.slice b17 n17 c17) (w':=w) ho e4 (by simp[execOp,e3,ev,evc,V17,Instr.extract]) (by rw[e2];exact go rfl bR hw ⟨_,_,_,rfl,f17,z17⟩)
  ·obtain⟨e2,e3,e4,dp⟩:=o19.at_ ho hdep
   obtain⟨b17,n17,c17,V17,f17,z17⟩:=hI.vl dp 17 69 rfl rfl
   exact wVa (v:=I4 EE) (w':=w) ho e4 (by simp[execOp,e3,ev,evc,V17,Instr.extract]) (by rw[e2];exact go rfl bR hw rfl)
  ·obtain⟨e2,e3,e4,dp⟩:=o20.at_ ho hdep
   obtain⟨b18,n18,c18,V18,f18,z18⟩:=hI.vl dp 18 87 rfl rfl
   exact wVa (v:=.slice b18 n18 c18) (w':=w) ho e4 (by simp[execOp,e3,ev,evc,V18]) (by rw[e2];exact go rfl bR hw ⟨_,_,_,rfl,f18,z18⟩)
  ·obtain⟨e2,e3,e4,dp⟩:=o21.at_ ho hdep
   have V19:tm a 88=_:=hI.vl dp 19 88 rfl rfl
   exact wVa (v:=I4 EE) (w':=w) ho e4 (by simp[execOp,e3,ev,evc,V19]) (by rw[e2];exact go rfl bR hw rfl)
 ·intro l a w hall hI
  have all:∀ j,j<22→l j=true:=fun j hj=>hall j (by rw[hsz];exact hj)
  exact fin a w hI.size hI.defers hI.kept hI.world (fun i d hi hD=>hI.val i d hi hD (all i hi))
def rsD (i:Nat):Option Nat:=match i with|0=>some 98|1=>some 99|2=>some 100|3=>some 101|4=>some 102|5=>some 103|6=>some 104|7=>some 105|8=>some 106|9=>some 107|10=>some 108|11=>some 109|12=>some 110|13=>some 111|14=>some 112|15=>some 113|16=>some 114|_=>none
theorem Qm3:∀ i,i<18→∀ j,j<18→rsD i=rsD j→rsD i≠none→i=j:=by decide
theorem QnV:∀ i,i<18→∀ d,rsD i=some d→d<131:=by
 intro i hi d h
 have:∀ i,i<18→(rsD i).all (fun d=>decide (d<131))=true:=by decide
 have:=this i hi
 rw[h] at this
 simpa using this
def rsF (x y:Addr)(B K m c1 c2 j g:Nat)(X0 X1 X2 X3 X4:Int)(i:Nat)(q:Value)(w:World):Prop:=match i with
 | 0=>q=.slice (some ⟨B,0,none⟩) m m
 | 1=>q=I4 g
 | 2=>q=.slice (some ⟨B,0,none⟩) m m
 | 3=>q=I4 g
 | 4=>q=.pointer (some ⟨B,g,none⟩)
 | 5=>q=I4 X0
 | 6=>q=.slice (some x) K c1
 | 7=>q=I4 j
 | 8=>q=.pointer (some (x.add j))
 | 9=>q=I4 X1
 | 10=>q=.slice (some y) m c2
 | 11=>q=I4 g
 | 12=>q=.pointer (some (y.add g))
 | 13=>q=I4 X2
 | 14=>q=I4 X3
 | 15=>q=I4 X4
 | 16=>q=.pointer (some ⟨B,g,none⟩)
 | _=>True
theorem QkG {x y:Addr}{B K m c1 c2 j g:Nat}{X0 X1 X2 X3 X4:Int}{i:Nat}{q:Value}{w w':World}(h:rsF x y B K m c1 c2 j g X0 X1 X2 X3 X4 i q w)(hb:Bw w w'):rsF x y B K m c1 c2 j g X0 X1 X2 X3 X4 i q w':=by
 unfold rsF at h ⊢
 split
 ·exact h
 ·exact h
 ·exact h
 ·exact h
 ·exact h
 ·exact h
 ·exact h
 ·exact h
 ·exact h
 ·exact h
 ·exact h
 ·exact h
 ·exact h
 ·exact h
 ·exact h
 ·exact h
 ·exact h
 ·trivial
theorem QkF {id:Nat}{ops:Array Oper}{Q:Exit→Act→World→Prop}{a0:Act}{w0:World}(x y:Addr)(B K m c1 c2 j g:Nat)(X0 X1 X2 X3 X4:Int)(S:World→Prop)(hlow:lowB ops=true)(hsz:ops.size=18)
  (oo:OpS ops 0 98 (.move (.tmp 17)) []∧OpS ops 1 99 (.move (.tmp 21)) []∧OpS ops 2 100 (.move (.tmp 17)) []∧OpS ops 3 101 (.move (.tmp 21)) []∧OpS ops 4 102 (.indexAddr 34 (.tmp 100) (.tmp 101)) [2,3]∧OpS ops 5 103 (.load 2 (.tmp 102)) [4]∧OpS ops 6 104 (.move (.tmp 15)) []∧OpS ops 7 105 (.move (.tmp 18)) []∧OpS ops 8 106 (.indexAddr 34 (.tmp 104) (.tmp 105)) [6,7]∧OpS ops 9 107 (.load 2 (.tmp 106)) [8]∧OpS ops 10 108 (.move (.tmp 19)) []∧OpS ops 11 109 (.move (.tmp 21)) []∧OpS ops 12 110 (.indexAddr 34 (.tmp 108) (.tmp 109)) [10,11]∧OpS ops 13 111 (.load 2 (.tmp 110)) [12]∧OpS ops 14 112 (.binOp .mul 2 (.tmp 107) (.tmp 111) 2) [9,13]∧OpS ops 15 113 (.call { callee:=.value (.func 72),args:=#[.tmp 103,.tmp 112],argTypes:=#[2,2] }) [5,14]∧OpS ops 16 114 (.indexAddr 34 (.tmp 98) (.tmp 99)) [0,1]∧OpIn ops 17 none (.store 2 (.tmp 114) (.tmp 113)) none [15,16])
  (hS:S w0.drew)
  (x4:∀ w,(Instr.indexAt 34 (.slice (some ⟨B,0,none⟩) m m) (I4 g)).run Tryz.prog w=.ok (.pointer (some ⟨B,g,none⟩)) w)
  (x5:∀ w,S w→(Instr.loadAt 2 (.pointer (some ⟨B,g,none⟩))).run Tryz.prog w=.ok (I4 X0) w)
  (x8:∀ w,(Instr.indexAt 34 (.slice (some x) K c1) (I4 j)).run Tryz.prog w=.ok (.pointer (some (x.add j))) w)
  (x9:∀ w,S w→(Instr.loadAt 2 (.pointer (some (x.add j)))).run Tryz.prog w=.ok (I4 X1) w)
  (x12:∀ w,(Instr.indexAt 34 (.slice (some y) m c2) (I4 g)).run Tryz.prog w=.ok (.pointer (some (y.add g))) w)
  (x13:∀ w,S w→(Instr.loadAt 2 (.pointer (some (y.add g)))).run Tryz.prog w=.ok (I4 X2) w)
  (x14:∀ w,(binOp .mul 2 (I4 X1) (I4 X2)).run Tryz.prog w=.ok (I4 X3) w)
  (x15:∀ w,S w→Calls Tryz.prog 72 #[I4 X0,I4 X3] w fun e w'=>e=.returned (I4 X4)∧w'=w)
  (x16:∀ w,(Instr.indexAt 34 (.slice (some ⟨B,0,none⟩) m m) (I4 g)).run Tryz.prog w=.ok (.pointer (some ⟨B,g,none⟩)) w)
  (u15:a0.tmps.getD 15 undef=.slice (some x) K c1)
  (u17:a0.tmps.getD 17 undef=.slice (some ⟨B,0,none⟩) m m)
  (u18:a0.tmps.getD 18 undef=I4 j)
  (u19:a0.tmps.getD 19 undef=.slice (some y) m c2)
  (u21:a0.tmps.getD 21 undef=I4 g)
  (hs:131≤a0.tmps.size)
  (fin:∀ a w,a.tmps.size=a0.tmps.size→a.defers=a0.defers→(∀ s,(∀ i,i<18→rsD i≠some s)→a.tmps.getD s undef=a0.tmps.getD s undef)→S w→(∀ i d,i<17→rsD i=some d→rsF x y B K m c1 c2 j g X0 X1 X2 X3 X4 i (a.tmps.getD d undef) w)→∃ w',(Instr.storeAt 2 (a.tmps.getD 114 undef) (a.tmps.getD 113 undef)).run Tryz.prog w=.ok () w'∧Q .normal a w'):(Code.region id ops true).wp Tryz.prog Q a0 w0:=by
 obtain⟨o0,o1,o2,o3,o4,o5,o6,o7,o8,o9,o10,o11,o12,o13,o14,o15,o16,o17⟩:=oo
 have r24:∀ args w,(callFunc 72 args).run Tryz.prog w=.ok (.enter 72 args) w:=eNo Tryz.func72 (by kernel_rfl) rfl
 refine wRi (by kernel_rfl) hlow (fun l a w=>(l 17=true∧Q .normal a w)∨(l 17=false∧Inv 18 rsD a0 (fun _ _ w=>S w) (fun _=>rsF x y B K m c1 c2 j g X0 X1 X2 X3 X4) l a w)) (.inr ⟨rfl,Inv.start hS⟩) ?_ ?_
 ·intro l i o a w ho hl hcl hdep hI0
  have hi:i<18:=by rw[←hsz];exact (Array.getElem?_eq_some_iff.1 ho).1
  rcases hI0 with⟨hlast,-⟩|⟨hlast,hI⟩
  ·exfalso
   have d15:l 15=true:=hcl.dep' o17 hlast 15 (by decide)
   have d16:l 16=true:=hcl.dep' o17 hlast 16 (by decide)
   have d5:l 5=true:=hcl.dep' o15 d15 5 (by decide)
   have d14:l 14=true:=hcl.dep' o15 d15 14 (by decide)
   have d0:l 0=true:=hcl.dep' o16 d16 0 (by decide)
   have d1:l 1=true:=hcl.dep' o16 d16 1 (by decide)
   have d4:l 4=true:=hcl.dep' o5 d5 4 (by decide)
   have d9:l 9=true:=hcl.dep' o14 d14 9 (by decide)
   have d13:l 13=true:=hcl.dep' o14 d14 13 (by decide)
   have d2:l 2=true:=hcl.dep' o4 d4 2 (by decide)
   have d3:l 3=true:=hcl.dep' o4 d4 3 (by decide)
   have d8:l 8=true:=hcl.dep' o9 d9 8 (by decide)
   have d12:l 12=true:=hcl.dep' o13 d13 12 (by decide)
   have d6:l 6=true:=hcl.dep' o8 d8 6 (by decide)
   have d7:l 7=true:=hcl.dep' o8 d8 7 (by decide)
   have d10:l 10=true:=hcl.dep' o12 d12 10 (by decide)
   have d11:l 11=true:=hcl.dep' o12 d12 11 (by decide)
   rcases l18 (show i<18 by omega) with rfl|rfl|rfl|rfl|rfl|rfl|rfl|rfl|rfl|rfl|rfl|rfl|rfl|rfl|rfl|rfl|rfl|rfl
   ·rw[d0] at hl;cases hl
   ·rw[d1] at hl;cases hl
   ·rw[d2] at hl;cases hl
   ·rw[d3] at hl;cases hl
   ·rw[d4] at hl;cases hl
   ·rw[d5] at hl;cases hl
   ·rw[d6] at hl;cases hl
   ·rw[d7] at hl;cases hl
   ·rw[d8] at hl;cases hl
   ·rw[d9] at hl;cases hl
   ·rw[d10] at hl;cases hl
   ·rw[d11] at hl;cases hl
   ·rw[d12] at hl;cases hl
   ·rw[d13] at hl;cases hl
   ·rw[d14] at hl;cases hl
   ·rw[d15] at hl;cases hl
   ·rw[d16] at hl;cases hl
   ·rw[hlast] at hl;cases hl
  have ev:∀ (s:Nat),a.eval (.tmp s)=a.tmps.getD s undef:=fun _=>rfl
  have evf:∀ f,a.eval (.func f)=.func (.func f) #[] #[]:=fun _=>rfl
  have evc:∀ c:Value,a.eval (.const c)=c:=fun _=>rfl
  have inj:∀ d,rsD i=some d→∀ j d',j<18→rsD j=some d'→j≠i→d'≠d:=fun d hd j d' hj hd' hne e=>hne (Qm3 j hj i hi (by rw[hd',hd,e]) (by rw[hd'];simp))
  have kp:∀ s,(∀ i,i<18→rsD i≠some s)→a.tmps.getD s undef=a0.tmps.getD s undef:=hI.kept
  have hw:S w:=hI.world
  have go:∀ {d:Nat}{v:Value}{w':World},rsD i=some d→i≠17→Bw w w'→S w'→rsF x y B K m c1 c2 j g X0 X1 X2 X3 X4 i v w'→((l 17 || 17==i)=true∧Q .normal (a.put (some d) v) w')∨((l 17 || 17==i)=false∧Inv 18 rsD a0 (fun _ _ w=>S w) (fun _=>rsF x y B K m c1 c2 j g X0 X1 X2 X3 X4) (fun j=>l j || j==i) (a.put (some d) v) w'):=by
   intro d v w' hD hne hb hS' hF
   refine .inr ⟨?_,hI.put hi hD (Nat.lt_of_lt_of_le (QnV i hi d hD) hs) (inj d hD) hS' hF (fun j u _ _ _ hf=>QkG hf hb)⟩
   rw[hlast,Bool.false_or]
   exact beq_eq_false_iff_ne.2 (Ne.symm hne)
  rcases l18 (show i<18 by omega) with rfl|rfl|rfl|rfl|rfl|rfl|rfl|rfl|rfl|rfl|rfl|rfl|rfl|rfl|rfl|rfl|rfl|rfl
  ·obtain⟨e2,e3,e4,dp⟩:=o0.at_ ho hdep
   have U17:=(kp 17 (by decide)).trans u17
   exact wVa (v:=.slice (some ⟨B,0,none⟩) m m) (w':=w) ho e4 (by simp[execOp,e3,ev,evc,U17]) (by rw[e2];exact go rfl (by decide) bR hw rfl)
  ·obtain⟨e2,e3,e4,dp⟩:=o1.at_ ho hdep
   have U21:=(kp 21 (by decide)).trans u21
   exact wVa (v:=I4 g) (w':=w) ho e4 (by simp[execOp,e3,ev,evc,U21]) (by rw[e2];exact go rfl (by decide) bR hw rfl)
  ·obtain⟨e2,e3,e4,dp⟩:=o2.at_ ho hdep
   have U17:=(kp 17 (by decide)).trans u17
   exact wVa (v:=.slice (some ⟨B,0,none⟩) m m) (w':=w) ho e4 (by simp[execOp,e3,ev,evc,U17]) (by rw[e2];exact go rfl (by decide) bR hw rfl)
  ·obtain⟨e2,e3,e4,dp⟩:=o3.at_ ho hdep
   have U21:=(kp 21 (by decide)).trans u21
   exact wVa (v:=I4 g) (w':=w) ho e4 (by simp[execOp,e3,ev,evc,U21]) (by rw[e2];exact go rfl (by decide) bR hw rfl)
  ·obtain⟨e2,e3,e4,dp⟩:=o4.at_ ho hdep
   have V2:tm a 100=_:=hI.vl dp 2 100 rfl rfl
   have V3:tm a 101=_:=hI.vl dp 3 101 rfl rfl
   exact wVa (v:=.pointer (some ⟨B,g,none⟩)) (w':=w) ho e4 (by simp[execOp,e3,ev,evc,V2,V3,x4 w]) (by rw[e2];exact go rfl (by decide) bR hw rfl)
  ·obtain⟨e2,e3,e4,dp⟩:=o5.at_ ho hdep
   have V4:tm a 102=_:=hI.vl dp 4 102 rfl rfl
   exact wVa (v:=I4 X0) (w':=w) ho e4 (by simp[execOp,e3,ev,evc,V4,x5 w hw]) (by rw[e2];exact go rfl (by decide) bR hw rfl)
  ·obtain⟨e2,e3,e4,dp⟩:=o6.at_ ho hdep
   have U15:=(kp 15 (by decide)).trans u15
   exact wVa (v:=.slice (some x) K c1) (w':=w) ho e4 (by simp[execOp,e3,ev,evc,U15]) (by rw[e2];exact go rfl (by decide) bR hw rfl)
  ·obtain⟨e2,e3,e4,dp⟩:=o7.at_ ho hdep
   have U18:=(kp 18 (by decide)).trans u18
   exact wVa (v:=I4 j) (w':=w) ho e4 (by simp[execOp,e3,ev,evc,U18]) (by rw[e2];exact go rfl (by decide) bR hw rfl)
  ·obtain⟨e2,e3,e4,dp⟩:=o8.at_ ho hdep
   have V6:tm a 104=_:=hI.vl dp 6 104 rfl rfl
   have V7:tm a 105=_:=hI.vl dp 7 105 rfl rfl
   exact wVa (v:=.pointer (some (x.add j))) (w':=w) ho e4 (by simp[execOp,e3,ev,evc,V6,V7,x8 w]) (by rw[e2];exact go rfl (by decide) bR hw rfl)
  ·obtain⟨e2,e3,e4,dp⟩:=o9.at_ ho hdep
   have V8:tm a 106=_:=hI.vl dp 8 106 rfl rfl
   exact wVa (v:=I4 X1) (w':=w) ho e4 (by simp[execOp,e3,ev,evc,V8,x9 w hw]) (by rw[e2];exact go rfl (by decide) bR hw rfl)
  ·obtain⟨e2,e3,e4,dp⟩:=o10.at_ ho hdep
   have U19:=(kp 19 (by decide)).trans u19
   exact wVa (v:=.slice (some y) m c2) (w':=w) ho e4 (by simp[execOp,e3,ev,evc,U19]) (by rw[e2];exact go rfl (by decide) bR hw rfl)
  ·obtain⟨e2,e3,e4,dp⟩:=o11.at_ ho hdep
   have U21:=(kp 21 (by decide)).trans u21
   exact wVa (v:=I4 g) (w':=w) ho e4 (by simp[execOp,e3,ev,evc,U21]) (by rw[e2];exact go rfl (by decide) bR hw rfl)
  ·obtain⟨e2,e3,e4,dp⟩:=o12.at_ ho hdep
   have V10:tm a 108=_:=hI.vl dp 10 108 rfl rfl
   have V11:tm a 109=_:=hI.vl dp 11 109 rfl rfl
   exact wVa (v:=.pointer (some (y.add g))) (w':=w) ho e4 (by simp[execOp,e3,ev,evc,V10,V11,x12 w]) (by rw[e2];exact go rfl (by decide) bR hw rfl)
  ·obtain⟨e2,e3,e4,dp⟩:=o13.at_ ho hdep
   have V12:tm a 110=_:=hI.vl dp 12 110 rfl rfl
   exact wVa (v:=I4 X2) (w':=w) ho e4 (by simp[execOp,e3,ev,evc,V12,x13 w hw]) (by rw[e2];exact go rfl (by decide) bR hw rfl)
  ·obtain⟨e2,e3,e4,dp⟩:=o14.at_ ho hdep
   have V9:tm a 107=_:=hI.vl dp 9 107 rfl rfl
   have V13:tm a 111=_:=hI.vl dp 13 111 rfl rfl
   exact wVa (v:=I4 X3) (w':=w) ho e4 (by simp[execOp,e3,ev,evc,V9,V13,x14 w,eqGuard]) (by rw[e2];exact go rfl (by decide) bR hw rfl)
  ·obtain⟨e2,e3,e4,dp⟩:=o15.at_ ho hdep
   have V5:tm a 103=_:=hI.vl dp 5 103 rfl rfl
   have V14:tm a 112=_:=hI.vl dp 14 112 rfl rfl
   refine wCa (f:=72) (args:=#[I4 X0,I4 X3]) ho e4 (by simp[execOp,e3,resolve,invoke,Deferred.ofValue,r24,ev,evf,evc,V5,V14]) ((x15 w hw).mono ?_)
   rintro e W' ⟨rfl,hq⟩;obtain rfl:=hq.symm
   refine⟨_,rfl,?_⟩
   rw[e2]
   exact go rfl (by decide) bR hw rfl
  ·obtain⟨e2,e3,e4,dp⟩:=o16.at_ ho hdep
   have V0:tm a 98=_:=hI.vl dp 0 98 rfl rfl
   have V1:tm a 99=_:=hI.vl dp 1 99 rfl rfl
   exact wVa (v:=.pointer (some ⟨B,g,none⟩)) (w':=w) ho e4 (by simp[execOp,e3,ev,evc,V0,V1,x16 w]) (by rw[e2];exact go rfl (by decide) bR hw rfl)
  ·have hdp:=hdep
   obtain⟨e2,e3,e4,dp⟩:=o17.at_ ho hdep
   have d15:l 15=true:=dp 15 (by decide)
   have d16:l 16=true:=dp 16 (by decide)
   have d5:l 5=true:=hcl.dep' o15 d15 5 (by decide)
   have d14:l 14=true:=hcl.dep' o15 d15 14 (by decide)
   have d0:l 0=true:=hcl.dep' o16 d16 0 (by decide)
   have d1:l 1=true:=hcl.dep' o16 d16 1 (by decide)
   have d4:l 4=true:=hcl.dep' o5 d5 4 (by decide)
   have d9:l 9=true:=hcl.dep' o14 d14 9 (by decide)
   have d13:l 13=true:=hcl.dep' o14 d14 13 (by decide)
   have d2:l 2=true:=hcl.dep' o4 d4 2 (by decide)
   have d3:l 3=true:=hcl.dep' o4 d4 3 (by decide)
   have d8:l 8=true:=hcl.dep' o9 d9 8 (by decide)
   have d12:l 12=true:=hcl.dep' o13 d13 12 (by decide)
   have d6:l 6=true:=hcl.dep' o8 d8 6 (by decide)
   have d7:l 7=true:=hcl.dep' o8 d8 7 (by decide)
   have d10:l 10=true:=hcl.dep' o12 d12 10 (by decide)
   have d11:l 11=true:=hcl.dep' o12 d12 11 (by decide)
   have all:∀ j,j<17→l j=true:=by
    intro j hj
    rcases l17 (show j<17 by omega) with rfl|rfl|rfl|rfl|rfl|rfl|rfl|rfl|rfl|rfl|rfl|rfl|rfl|rfl|rfl|rfl|rfl<;>assumption
   obtain⟨w',hst,hq⟩:=fin a w hI.size hI.defers hI.kept hI.world (fun i d hi hD=>hI.val i d (by omega) hD (all i hi))
   obtain⟨p1,ep1⟩:∃ p,a.tmps.getD 114 undef=p:=⟨_,rfl⟩
   obtain⟨p2,ep2⟩:∃ p,a.tmps.getD 113 undef=p:=⟨_,rfl⟩
   rw[ep1,ep2] at hst
   refine wSk (w':=w') ho e4 (by simp[execOp,e3,ev,ep1,ep2,hst]) ?_
   rw[e2]
   exact .inl ⟨by simp,hq⟩
 ·intro l a w hall hI
  rcases hI with⟨-,hq⟩|⟨h,-⟩
  ·exact hq
  ·rw[hall 17 (by rw[hsz];decide)] at h
   cases h
end Go.Proofs.YthliomlmhfjhnaaGreat
