/- Texts put together. -/
import Derived.Test.YtbkjhfmehemgpaaGreatFb0
import Derived.Test.YtbkjhfmehemgpaaGreatFb1
import Derived.Test.YtbkjhfmehemgpaaGreatFb3
namespace Go.Proofs.YtbkjhfmehemgpaaGreat
set_option maxRecDepth 20000
set_option maxHeartbeats 16000000
open Go.ChangeShapes Go.WideShapes Go.ChangeAt Go.RowKit
set_option linter.unusedVariables false
set_option linter.unusedSimpArgs false
def moD (i:Nat):Option Nat:=match i with|0=>some 34|1=>some 35|2=>some 36|3=>some 37|4=>some 38|5=>some 39|6=>some 40|7=>some 41|8=>some 42|9=>some 12|_=>none
theorem moD_inj:∀ i,i<10→∀ j,j<10→moD i=moD j→moD i≠none→i=j:=by decide
theorem moD_lt:∀ i,i<10→∀ d,moD i=some d→d<94:=by
 intro i hi d h
 have:∀ i,i<10→(moD i).all (fun d=>decide (d<94))=true:=by decide
 have:=this i hi
 rw[h] at this
 simpa using this
def moF (x y:Addr)(n c1 c2 un uc dn dc m xc:Nat)(ua da xa:Option Addr)(hh:Int)(O:List Int)(i:Nat)(q:Value)(w:World):Prop:=match i with
 | 0=>q=.slice (some x) n c1
 | 1=>q=.pointer (some x)
 | 2=>q=.slice ua un uc
 | 3=>q=.slice (some y) n c2
 | 4=>q=.pointer (some y)
 | 5=>q=.slice da dn dc
 | 6=>q=.int .i64 hh
 | 7=>q=.slice xa m xc
 | 8=>∃ b,q=.slice (some b) m m∧Reads .i64 w (some b) m O
 | 9=>∃ b,q=.slice (some b) m m∧Reads .i64 w (some b) m O
 | _=>True
theorem moF_below {x y:Addr}{n c1 c2 un uc dn dc m xc:Nat}{ua da xa:Option Addr}{hh:Int}{O:List Int}{i:Nat}{q:Value}{w w':World}(h:moF x y n c1 c2 un uc dn dc m xc ua da xa hh O i q w)(hb:Below w.heap.size w w'):moF x y n c1 c2 un uc dn dc m xc ua da xa hh O i q w':=by
 unfold moF at h ⊢
 split
 ·exact h
 ·exact h
 ·exact h
 ·exact h
 ·exact h
 ·exact h
 ·exact h
 ·exact h
 ·obtain⟨b,h1,h2⟩:=h;exact⟨b,h1,h2.below hb⟩
 ·obtain⟨b,h1,h2⟩:=h;exact⟨b,h1,h2.below hb⟩
 ·trivial
theorem mo_region {id:Nat}{ops:Array Oper}{Q:Exit→Act→World→Prop}{a0:Act}{w0:World}(x y:Addr)(n c1 c2 un uc dn dc m xc:Nat)(ua da xa:Option Addr)(hh:Int)(O:List Int)(S:World→Prop)(hlow:lowB ops=true)(hsz:ops.size=10)
  (o0:OpIn ops 0 (some 34) (.move (.tmp 1)) none []) (o1:OpIn ops 1 (some 35) (.indexAddr 59 (.tmp 34) (.const (.int .i64 0))) none [0]) (o2:OpIn ops 2 (some 36) (.load 31 (.tmp 35)) none [1]) (o3:OpIn ops 3 (some 37) (.move (.tmp 2)) none []) (o4:OpIn ops 4 (some 38) (.indexAddr 59 (.tmp 37) (.const (.int .i64 0))) none [3]) (o5:OpIn ops 5 (some 39) (.load 31 (.tmp 38)) none [4]) (o6:OpIn ops 6 (some 40) (.move (.tmp 3)) none []) (o7:OpIn ops 7 (some 41) (.move (.tmp 5)) none []) (o8:OpIn ops 8 (some 42) (.call { callee:=.value (.func 227),args:=#[.tmp 36,.tmp 39,.tmp 40,.tmp 41],argTypes:=#[31,31,3,70] }) none [2,5,6,7]) (o9:OpIn ops 9 (some 12) (.assign (.tmp 42)) none [8])
  (hS:S w0.drew)
  (x1:∀ w,(Instr.indexAt 59 (.slice (some x) n c1) (.int .i64 0)).run Tryz.prog w=.ok (.pointer (some x)) w)
  (x2:∀ w,S w→(Instr.loadAt 31 (.pointer (some x))).run Tryz.prog w=.ok (.slice ua un uc) w)
  (x4:∀ w,(Instr.indexAt 59 (.slice (some y) n c2) (.int .i64 0)).run Tryz.prog w=.ok (.pointer (some y)) w)
  (x5:∀ w,S w→(Instr.loadAt 31 (.pointer (some y))).run Tryz.prog w=.ok (.slice da dn dc) w)
  (x8:∀ w,S w→Calls Tryz.prog 227 #[.slice ua un uc,.slice da dn dc,.int .i64 hh,.slice xa m xc] w fun e w'=>∃ b,e=.returned (.slice (some b) m m)∧Reads .i64 w' (some b) m O∧Below w.heap.size w w'∧S w')
  (u1:a0.tmps.getD 1 undef=.slice (some x) n c1)
  (u2:a0.tmps.getD 2 undef=.slice (some y) n c2)
  (u3:a0.tmps.getD 3 undef=.int .i64 hh)
  (u5:a0.tmps.getD 5 undef=.slice xa m xc)
  (hs:94≤a0.tmps.size)
  (fin:∀ a w,a.tmps.size=a0.tmps.size→a.defers=a0.defers→(∀ s,(∀ i,i<10→moD i≠some s)→a.tmps.getD s undef=a0.tmps.getD s undef)→S w→(∀ i d,i<10→moD i=some d→moF x y n c1 c2 un uc dn dc m xc ua da xa hh O i (a.tmps.getD d undef) w)→Q .normal a w):(Code.region id ops true).wp Tryz.prog Q a0 w0:=by
 have r32:∀ args w,(callFunc 227 args).run Tryz.prog w=.ok (.enter 227 args) w:=eNo Tryz.func227 (by kernel_rfl) rfl
 refine wRi (by kernel_rfl) hlow (Inv 10 moD a0 (fun _ _ w=>S w) (fun _=>moF x y n c1 c2 un uc dn dc m xc ua da xa hh O)) (Inv.start hS) ?_ ?_
 ·intro l i o a w ho hl hcl hdep hI
  have hi:i<10:=by rw[←hsz];exact (Array.getElem?_eq_some_iff.1 ho).1
  have ev:∀ (s:Nat),a.eval (.tmp s)=a.tmps.getD s undef:=fun _=>rfl
  have evf:∀ f,a.eval (.func f)=.func (.func f) #[] #[]:=fun _=>rfl
  have evc:∀ c:Value,a.eval (.const c)=c:=fun _=>rfl
  have inj:∀ d,moD i=some d→∀ j d',j<10→moD j=some d'→j≠i→d'≠d:=fun d hd j d' hj hd' hne e=>hne (moD_inj j hj i hi (by rw[hd',hd,e]) (by rw[hd'];simp))
  have kp:∀ s,(∀ i,i<10→moD i≠some s)→a.tmps.getD s undef=a0.tmps.getD s undef:=hI.kept
  have hw:S w:=hI.world
  have go:∀ {d:Nat}{v:Value}{w':World},moD i=some d→Below w.heap.size w w'→S w'→moF x y n c1 c2 un uc dn dc m xc ua da xa hh O i v w'→Inv 10 moD a0 (fun _ _ w=>S w) (fun _=>moF x y n c1 c2 un uc dn dc m xc ua da xa hh O) (fun j=>l j || j==i) (a.put (some d) v) w':=by
   intro d v w' hD hb hS' hF
   exact hI.put hi hD (Nat.lt_of_lt_of_le (moD_lt i hi d hD) hs) (inj d hD) hS' hF (fun j u _ _ _ hf=>moF_below hf hb)
  rcases (show i=0∨i=1∨i=2∨i=3∨i=4∨i=5∨i=6∨i=7∨i=8∨i=9 by omega) with rfl|rfl|rfl|rfl|rfl|rfl|rfl|rfl|rfl|rfl
  ·obtain⟨o',e1,e2,e3,e4,e5⟩:=o0
   obtain rfl:=sOp ho e1
   have dp:=dPo e5 hdep
   have U1:a.tmps.getD 1 undef=.slice (some x) n c1:=(kp 1 (by decide)).trans u1
   exact wVa (v:=.slice (some x) n c1) (w':=w) ho e4 (by simp[execOp,e3,ev,evc,U1]) (by rw[e2];exact go rfl (Below.refl _ _) hw rfl)
  ·obtain⟨o',e1,e2,e3,e4,e5⟩:=o1
   obtain rfl:=sOp ho e1
   have dp:=dPo e5 hdep
   have V0:a.tmps.getD 34 undef=.slice (some x) n c1:=hI.val 0 34 (by decide) rfl (dp 0 (by decide))
   exact wVa (v:=.pointer (some x)) (w':=w) ho e4 (by simp[execOp,e3,ev,evc,V0,x1 w]) (by rw[e2];exact go rfl (Below.refl _ _) hw rfl)
  ·obtain⟨o',e1,e2,e3,e4,e5⟩:=o2
   obtain rfl:=sOp ho e1
   have dp:=dPo e5 hdep
   have V1:a.tmps.getD 35 undef=.pointer (some x):=hI.val 1 35 (by decide) rfl (dp 1 (by decide))
   exact wVa (v:=.slice ua un uc) (w':=w) ho e4 (by simp[execOp,e3,ev,evc,V1,x2 w hw]) (by rw[e2];exact go rfl (Below.refl _ _) hw rfl)
  ·obtain⟨o',e1,e2,e3,e4,e5⟩:=o3
   obtain rfl:=sOp ho e1
   have dp:=dPo e5 hdep
   have U2:a.tmps.getD 2 undef=.slice (some y) n c2:=(kp 2 (by decide)).trans u2
   exact wVa (v:=.slice (some y) n c2) (w':=w) ho e4 (by simp[execOp,e3,ev,evc,U2]) (by rw[e2];exact go rfl (Below.refl _ _) hw rfl)
  ·obtain⟨o',e1,e2,e3,e4,e5⟩:=o4
   obtain rfl:=sOp ho e1
   have dp:=dPo e5 hdep
   have V3:a.tmps.getD 37 undef=.slice (some y) n c2:=hI.val 3 37 (by decide) rfl (dp 3 (by decide))
   exact wVa (v:=.pointer (some y)) (w':=w) ho e4 (by simp[execOp,e3,ev,evc,V3,x4 w]) (by rw[e2];exact go rfl (Below.refl _ _) hw rfl)
  ·obtain⟨o',e1,e2,e3,e4,e5⟩:=o5
   obtain rfl:=sOp ho e1
   have dp:=dPo e5 hdep
   have V4:a.tmps.getD 38 undef=.pointer (some y):=hI.val 4 38 (by decide) rfl (dp 4 (by decide))
   exact wVa (v:=.slice da dn dc) (w':=w) ho e4 (by simp[execOp,e3,ev,evc,V4,x5 w hw]) (by rw[e2];exact go rfl (Below.refl _ _) hw rfl)
  ·obtain⟨o',e1,e2,e3,e4,e5⟩:=o6
   obtain rfl:=sOp ho e1
   have dp:=dPo e5 hdep
   have U3:a.tmps.getD 3 undef=.int .i64 hh:=(kp 3 (by decide)).trans u3
   exact wVa (v:=.int .i64 hh) (w':=w) ho e4 (by simp[execOp,e3,ev,evc,U3]) (by rw[e2];exact go rfl (Below.refl _ _) hw rfl)
  ·obtain⟨o',e1,e2,e3,e4,e5⟩:=o7
   obtain rfl:=sOp ho e1
   have dp:=dPo e5 hdep
   have U5:a.tmps.getD 5 undef=.slice xa m xc:=(kp 5 (by decide)).trans u5
   exact wVa (v:=.slice xa m xc) (w':=w) ho e4 (by simp[execOp,e3,ev,evc,U5]) (by rw[e2];exact go rfl (Below.refl _ _) hw rfl)
  ·obtain⟨o',e1,e2,e3,e4,e5⟩:=o8
   obtain rfl:=sOp ho e1
   have dp:=dPo e5 hdep
   have V2:a.tmps.getD 36 undef=.slice ua un uc:=hI.val 2 36 (by decide) rfl (dp 2 (by decide))
   have V5:a.tmps.getD 39 undef=.slice da dn dc:=hI.val 5 39 (by decide) rfl (dp 5 (by decide))
   have V6:a.tmps.getD 40 undef=.int .i64 hh:=hI.val 6 40 (by decide) rfl (dp 6 (by decide))
   have V7:a.tmps.getD 41 undef=.slice xa m xc:=hI.val 7 41 (by decide) rfl (dp 7 (by decide))
   refine wCa (f:=227) (args:=#[.slice ua un uc,.slice da dn dc,.int .i64 hh,.slice xa m xc]) ho e4 (by simp[execOp,e3,resolve,invoke,Deferred.ofValue,r32,ev,evf,evc,V2,V5,V6,V7]) ((x8 w hw).mono ?_)
   rintro e W' ⟨b,rfl,hr6,hb6,hs6⟩
   refine⟨_,rfl,?_⟩
   rw[e2]
   exact go rfl hb6 hs6 ⟨b,rfl,hr6⟩
  ·obtain⟨o',e1,e2,e3,e4,e5⟩:=o9
   obtain rfl:=sOp ho e1
   have dp:=dPo e5 hdep
   obtain⟨b8,V8,f8⟩:∃ b,a.tmps.getD 42 undef=.slice (some b) m m∧Reads .i64 w (some b) m O:=hI.val 8 42 (by decide) rfl (dp 8 (by decide))
   exact wVa (v:=.slice (some b8) m m) (w':=w) ho e4 (by simp[execOp,e3,ev,evc,V8]) (by rw[e2];exact go rfl (Below.refl _ _) hw ⟨_,rfl,f8⟩)
 ·intro l a w hall hI
  have all:∀ j,j<10→l j=true:=fun j hj=>hall j (by rw[hsz];exact hj)
  exact fin a w hI.size hI.defers hI.kept hI.world (fun i d hi hD=>hI.val i d hi hD (all i hi))
def mrD (i:Nat):Option Nat:=match i with|0=>some 62|1=>some 63|2=>some 64|3=>some 65|4=>some 66|5=>some 67|6=>some 68|7=>some 69|8=>some 70|9=>some 71|10=>some 72|11=>some 73|12=>some 74|13=>some 75|_=>none
theorem mrD_inj:∀ i,i<15→∀ j,j<15→mrD i=mrD j→mrD i≠none→i=j:=by decide
theorem mrD_lt:∀ i,i<15→∀ d,mrD i=some d→d<94:=by
 intro i hi d h
 have:∀ i,i<15→(mrD i).all (fun d=>decide (d<94))=true:=by decide
 have:=this i hi
 rw[h] at this
 simpa using this
def mrF (x y:Addr)(n c1 c2 un uc dn dc m xc:Nat)(ua da xa:Option Addr)(hh:Int)(B K g p:Nat)(O:List Int)(i:Nat)(q:Value)(w:World):Prop:=match i with
 | 0=>q=.slice (some ⟨B,0,none⟩) K K
 | 1=>q=.int .i64 g
 | 2=>q=.slice (some x) n c1
 | 3=>q=.int .i64 p
 | 4=>q=.pointer (some (x.add p))
 | 5=>q=.slice ua un uc
 | 6=>q=.slice (some y) n c2
 | 7=>q=.int .i64 p
 | 8=>q=.pointer (some (y.add p))
 | 9=>q=.slice da dn dc
 | 10=>q=.int .i64 hh
 | 11=>q=.slice xa m xc
 | 12=>∃ b,q=.slice (some b) m m∧Reads .i64 w (some b) m O∧b.block≠B
 | 13=>q=.pointer (some ⟨B,g,none⟩)
 | _=>True
theorem mrF_below {x y:Addr}{n c1 c2 un uc dn dc m xc:Nat}{ua da xa:Option Addr}{hh:Int}{B K g p:Nat}{O:List Int}{i:Nat}{q:Value}{w w':World}(h:mrF x y n c1 c2 un uc dn dc m xc ua da xa hh B K g p O i q w)(hb:Below w.heap.size w w'):mrF x y n c1 c2 un uc dn dc m xc ua da xa hh B K g p O i q w':=by
 unfold mrF at h ⊢
 split
 ·exact h
 ·exact h
 ·exact h
 ·exact h
 ·exact h
 ·exact h
 ·exact h
 ·exact h
 ·exact h
 ·exact h
 ·exact h
 ·exact h
 ·obtain⟨b,h1,h2,h3⟩:=h;exact⟨b,h1,h2.below hb,h3⟩
 ·exact h
 ·trivial
theorem mr_region {id:Nat}{ops:Array Oper}{Q:Exit→Act→World→Prop}{a0:Act}{w0:World}(x y:Addr)(n c1 c2 un uc dn dc m xc:Nat)(ua da xa:Option Addr)(hh:Int)(B K g p:Nat)(O:List Int)(S:World→Prop)(hlow:lowB ops=true)(hsz:ops.size=15)
  (o0:OpIn ops 0 (some 62) (.move (.tmp 15)) none []) (o1:OpIn ops 1 (some 63) (.move (.tmp 16)) none []) (o2:OpIn ops 2 (some 64) (.move (.tmp 1)) none []) (o3:OpIn ops 3 (some 65) (.move (.tmp 17)) none []) (o4:OpIn ops 4 (some 66) (.indexAddr 59 (.tmp 64) (.tmp 65)) none [2,3]) (o5:OpIn ops 5 (some 67) (.load 31 (.tmp 66)) none [4]) (o6:OpIn ops 6 (some 68) (.move (.tmp 2)) none []) (o7:OpIn ops 7 (some 69) (.move (.tmp 17)) none []) (o8:OpIn ops 8 (some 70) (.indexAddr 59 (.tmp 68) (.tmp 69)) none [6,7]) (o9:OpIn ops 9 (some 71) (.load 31 (.tmp 70)) none [8]) (o10:OpIn ops 10 (some 72) (.move (.tmp 3)) none []) (o11:OpIn ops 11 (some 73) (.move (.tmp 5)) none []) (o12:OpIn ops 12 (some 74) (.call { callee:=.value (.func 227),args:=#[.tmp 67,.tmp 71,.tmp 72,.tmp 73],argTypes:=#[31,31,3,70] }) none [5,9,10,11]) (o13:OpIn ops 13 (some 75) (.indexAddr 67 (.tmp 62) (.tmp 63)) none [0,1]) (o14:OpIn ops 14 none (.store 70 (.tmp 75) (.tmp 74)) none [12,13])
  (hS:S w0.drew)
  (x4:∀ w,(Instr.indexAt 59 (.slice (some x) n c1) (.int .i64 p)).run Tryz.prog w=.ok (.pointer (some (x.add p))) w)
  (x5:∀ w,S w→(Instr.loadAt 31 (.pointer (some (x.add p)))).run Tryz.prog w=.ok (.slice ua un uc) w)
  (x8:∀ w,(Instr.indexAt 59 (.slice (some y) n c2) (.int .i64 p)).run Tryz.prog w=.ok (.pointer (some (y.add p))) w)
  (x9:∀ w,S w→(Instr.loadAt 31 (.pointer (some (y.add p)))).run Tryz.prog w=.ok (.slice da dn dc) w)
  (x12:∀ w,S w→Calls Tryz.prog 227 #[.slice ua un uc,.slice da dn dc,.int .i64 hh,.slice xa m xc] w fun e w'=>∃ b,e=.returned (.slice (some b) m m)∧Reads .i64 w' (some b) m O∧b.block≠B∧Below w.heap.size w w'∧S w')
  (x13:∀ w,(Instr.indexAt 67 (.slice (some ⟨B,0,none⟩) K K) (.int .i64 g)).run Tryz.prog w=.ok (.pointer (some ⟨B,g,none⟩)) w)
  (u1:a0.tmps.getD 1 undef=.slice (some x) n c1)
  (u2:a0.tmps.getD 2 undef=.slice (some y) n c2)
  (u3:a0.tmps.getD 3 undef=.int .i64 hh)
  (u5:a0.tmps.getD 5 undef=.slice xa m xc)
  (u15:a0.tmps.getD 15 undef=.slice (some ⟨B,0,none⟩) K K)
  (u16:a0.tmps.getD 16 undef=.int .i64 g)
  (u17:a0.tmps.getD 17 undef=.int .i64 p)
  (hs:94≤a0.tmps.size)
  (fin:∀ a w,a.tmps.size=a0.tmps.size→a.defers=a0.defers→(∀ s,(∀ i,i<15→mrD i≠some s)→a.tmps.getD s undef=a0.tmps.getD s undef)→S w→(∀ i d,i<14→mrD i=some d→mrF x y n c1 c2 un uc dn dc m xc ua da xa hh B K g p O i (a.tmps.getD d undef) w)→∃ w',(Instr.storeAt 70 (a.tmps.getD 75 undef) (a.tmps.getD 74 undef)).run Tryz.prog w=.ok () w'∧Q .normal a w'):(Code.region id ops true).wp Tryz.prog Q a0 w0:=by
 have r32:∀ args w,(callFunc 227 args).run Tryz.prog w=.ok (.enter 227 args) w:=eNo Tryz.func227 (by kernel_rfl) rfl
 refine wRi (by kernel_rfl) hlow (fun l a w=>(l 14=true∧Q .normal a w)∨(l 14=false∧Inv 15 mrD a0 (fun _ _ w=>S w) (fun _=>mrF x y n c1 c2 un uc dn dc m xc ua da xa hh B K g p O) l a w)) (.inr ⟨rfl,Inv.start hS⟩) ?_ ?_
 ·intro l i o a w ho hl hcl hdep hI0
  have hi:i<15:=by rw[←hsz];exact (Array.getElem?_eq_some_iff.1 ho).1
  rcases hI0 with⟨hlast,-⟩|⟨hlast,hI⟩
  ·exfalso
   have d12:l 12=true:=hcl.dep' o14 hlast 12 (by decide)
   have d13:l 13=true:=hcl.dep' o14 hlast 13 (by decide)
   have d5:l 5=true:=hcl.dep' o12 d12 5 (by decide)
   have d9:l 9=true:=hcl.dep' o12 d12 9 (by decide)
   have d10:l 10=true:=hcl.dep' o12 d12 10 (by decide)
   have d11:l 11=true:=hcl.dep' o12 d12 11 (by decide)
   have d0:l 0=true:=hcl.dep' o13 d13 0 (by decide)
   have d1:l 1=true:=hcl.dep' o13 d13 1 (by decide)
   have d4:l 4=true:=hcl.dep' o5 d5 4 (by decide)
   have d8:l 8=true:=hcl.dep' o9 d9 8 (by decide)
   have d2:l 2=true:=hcl.dep' o4 d4 2 (by decide)
   have d3:l 3=true:=hcl.dep' o4 d4 3 (by decide)
   have d6:l 6=true:=hcl.dep' o8 d8 6 (by decide)
   have d7:l 7=true:=hcl.dep' o8 d8 7 (by decide)
   rcases (show i=0∨i=1∨i=2∨i=3∨i=4∨i=5∨i=6∨i=7∨i=8∨i=9∨i=10∨i=11∨i=12∨i=13∨i=14 by omega) with rfl|rfl|rfl|rfl|rfl|rfl|rfl|rfl|rfl|rfl|rfl|rfl|rfl|rfl|rfl
   ·rw[d0] at hl;cases hl
   ·rw[d1] at hl;cases hl
   ·rw[d2] at hl;cases hl
   ·rw[d3] at hl;cases hl
   ·rw[d4] at hl;cases hl
   ·rw[d5] at hl;cases hl
   ·rw[d6] at hl;cases hl
   ·rw[d7] at hl;cases hl
   ·rw[d8] at hl;cases hl
   ·rw[d9] at hl;cases hl
   ·rw[d10] at hl;cases hl
   ·rw[d11] at hl;cases hl
   ·rw[d12] at hl;cases hl
   ·rw[d13] at hl;cases hl
   ·rw[hlast] at hl;cases hl
  have ev:∀ (s:Nat),a.eval (.tmp s)=a.tmps.getD s undef:=fun _=>rfl
  have evf:∀ f,a.eval (.func f)=.func (.func f) #[] #[]:=fun _=>rfl
  have evc:∀ c:Value,a.eval (.const c)=c:=fun _=>rfl
  have inj:∀ d,mrD i=some d→∀ j d',j<15→mrD j=some d'→j≠i→d'≠d:=fun d hd j d' hj hd' hne e=>hne (mrD_inj j hj i hi (by rw[hd',hd,e]) (by rw[hd'];simp))
  have kp:∀ s,(∀ i,i<15→mrD i≠some s)→a.tmps.getD s undef=a0.tmps.getD s undef:=hI.kept
  have hw:S w:=hI.world
  have go:∀ {d:Nat}{v:Value}{w':World},mrD i=some d→i≠14→Below w.heap.size w w'→S w'→mrF x y n c1 c2 un uc dn dc m xc ua da xa hh B K g p O i v w'→((l 14 || 14==i)=true∧Q .normal (a.put (some d) v) w')∨((l 14 || 14==i)=false∧Inv 15 mrD a0 (fun _ _ w=>S w) (fun _=>mrF x y n c1 c2 un uc dn dc m xc ua da xa hh B K g p O) (fun j=>l j || j==i) (a.put (some d) v) w'):=by
   intro d v w' hD hne hb hS' hF
   refine .inr ⟨?_,hI.put hi hD (Nat.lt_of_lt_of_le (mrD_lt i hi d hD) hs) (inj d hD) hS' hF (fun j u _ _ _ hf=>mrF_below hf hb)⟩
   rw[hlast,Bool.false_or]
   exact beq_eq_false_iff_ne.2 (Ne.symm hne)
  rcases (show i=0∨i=1∨i=2∨i=3∨i=4∨i=5∨i=6∨i=7∨i=8∨i=9∨i=10∨i=11∨i=12∨i=13∨i=14 by omega) with rfl|rfl|rfl|rfl|rfl|rfl|rfl|rfl|rfl|rfl|rfl|rfl|rfl|rfl|rfl
  ·obtain⟨o',e1,e2,e3,e4,e5⟩:=o0
   obtain rfl:=sOp ho e1
   have dp:=dPo e5 hdep
   have U15:a.tmps.getD 15 undef=.slice (some ⟨B,0,none⟩) K K:=(kp 15 (by decide)).trans u15
   exact wVa (v:=.slice (some ⟨B,0,none⟩) K K) (w':=w) ho e4 (by simp[execOp,e3,ev,evc,U15]) (by rw[e2];exact go rfl (by decide) (Below.refl _ _) hw rfl)
  ·obtain⟨o',e1,e2,e3,e4,e5⟩:=o1
   obtain rfl:=sOp ho e1
   have dp:=dPo e5 hdep
   have U16:a.tmps.getD 16 undef=.int .i64 g:=(kp 16 (by decide)).trans u16
   exact wVa (v:=.int .i64 g) (w':=w) ho e4 (by simp[execOp,e3,ev,evc,U16]) (by rw[e2];exact go rfl (by decide) (Below.refl _ _) hw rfl)
  ·obtain⟨o',e1,e2,e3,e4,e5⟩:=o2
   obtain rfl:=sOp ho e1
   have dp:=dPo e5 hdep
   have U1:a.tmps.getD 1 undef=.slice (some x) n c1:=(kp 1 (by decide)).trans u1
   exact wVa (v:=.slice (some x) n c1) (w':=w) ho e4 (by simp[execOp,e3,ev,evc,U1]) (by rw[e2];exact go rfl (by decide) (Below.refl _ _) hw rfl)
  ·obtain⟨o',e1,e2,e3,e4,e5⟩:=o3
   obtain rfl:=sOp ho e1
   have dp:=dPo e5 hdep
   have U17:a.tmps.getD 17 undef=.int .i64 p:=(kp 17 (by decide)).trans u17
   exact wVa (v:=.int .i64 p) (w':=w) ho e4 (by simp[execOp,e3,ev,evc,U17]) (by rw[e2];exact go rfl (by decide) (Below.refl _ _) hw rfl)
  ·obtain⟨o',e1,e2,e3,e4,e5⟩:=o4
   obtain rfl:=sOp ho e1
   have dp:=dPo e5 hdep
   have V2:a.tmps.getD 64 undef=.slice (some x) n c1:=hI.val 2 64 (by decide) rfl (dp 2 (by decide))
   have V3:a.tmps.getD 65 undef=.int .i64 p:=hI.val 3 65 (by decide) rfl (dp 3 (by decide))
   exact wVa (v:=.pointer (some (x.add p))) (w':=w) ho e4 (by simp[execOp,e3,ev,evc,V2,V3,x4 w]) (by rw[e2];exact go rfl (by decide) (Below.refl _ _) hw rfl)
  ·obtain⟨o',e1,e2,e3,e4,e5⟩:=o5
   obtain rfl:=sOp ho e1
   have dp:=dPo e5 hdep
   have V4:a.tmps.getD 66 undef=.pointer (some (x.add p)):=hI.val 4 66 (by decide) rfl (dp 4 (by decide))
   exact wVa (v:=.slice ua un uc) (w':=w) ho e4 (by simp[execOp,e3,ev,evc,V4,x5 w hw]) (by rw[e2];exact go rfl (by decide) (Below.refl _ _) hw rfl)
  ·obtain⟨o',e1,e2,e3,e4,e5⟩:=o6
   obtain rfl:=sOp ho e1
   have dp:=dPo e5 hdep
   have U2:a.tmps.getD 2 undef=.slice (some y) n c2:=(kp 2 (by decide)).trans u2
   exact wVa (v:=.slice (some y) n c2) (w':=w) ho e4 (by simp[execOp,e3,ev,evc,U2]) (by rw[e2];exact go rfl (by decide) (Below.refl _ _) hw rfl)
  ·obtain⟨o',e1,e2,e3,e4,e5⟩:=o7
   obtain rfl:=sOp ho e1
   have dp:=dPo e5 hdep
   have U17:a.tmps.getD 17 undef=.int .i64 p:=(kp 17 (by decide)).trans u17
   exact wVa (v:=.int .i64 p) (w':=w) ho e4 (by simp[execOp,e3,ev,evc,U17]) (by rw[e2];exact go rfl (by decide) (Below.refl _ _) hw rfl)
  ·obtain⟨o',e1,e2,e3,e4,e5⟩:=o8
   obtain rfl:=sOp ho e1
   have dp:=dPo e5 hdep
   have V6:a.tmps.getD 68 undef=.slice (some y) n c2:=hI.val 6 68 (by decide) rfl (dp 6 (by decide))
   have V7:a.tmps.getD 69 undef=.int .i64 p:=hI.val 7 69 (by decide) rfl (dp 7 (by decide))
   exact wVa (v:=.pointer (some (y.add p))) (w':=w) ho e4 (by simp[execOp,e3,ev,evc,V6,V7,x8 w]) (by rw[e2];exact go rfl (by decide) (Below.refl _ _) hw rfl)
  ·obtain⟨o',e1,e2,e3,e4,e5⟩:=o9
   obtain rfl:=sOp ho e1
   have dp:=dPo e5 hdep
   have V8:a.tmps.getD 70 undef=.pointer (some (y.add p)):=hI.val 8 70 (by decide) rfl (dp 8 (by decide))
   exact wVa (v:=.slice da dn dc) (w':=w) ho e4 (by simp[execOp,e3,ev,evc,V8,x9 w hw]) (by rw[e2];exact go rfl (by decide) (Below.refl _ _) hw rfl)
  ·obtain⟨o',e1,e2,e3,e4,e5⟩:=o10
   obtain rfl:=sOp ho e1
   have dp:=dPo e5 hdep
   have U3:a.tmps.getD 3 undef=.int .i64 hh:=(kp 3 (by decide)).trans u3
   exact wVa (v:=.int .i64 hh) (w':=w) ho e4 (by simp[execOp,e3,ev,evc,U3]) (by rw[e2];exact go rfl (by decide) (Below.refl _ _) hw rfl)
  ·obtain⟨o',e1,e2,e3,e4,e5⟩:=o11
   obtain rfl:=sOp ho e1
   have dp:=dPo e5 hdep
   have U5:a.tmps.getD 5 undef=.slice xa m xc:=(kp 5 (by decide)).trans u5
   exact wVa (v:=.slice xa m xc) (w':=w) ho e4 (by simp[execOp,e3,ev,evc,U5]) (by rw[e2];exact go rfl (by decide) (Below.refl _ _) hw rfl)
  ·obtain⟨o',e1,e2,e3,e4,e5⟩:=o12
   obtain rfl:=sOp ho e1
   have dp:=dPo e5 hdep
   have V5:a.tmps.getD 67 undef=.slice ua un uc:=hI.val 5 67 (by decide) rfl (dp 5 (by decide))
   have V9:a.tmps.getD 71 undef=.slice da dn dc:=hI.val 9 71 (by decide) rfl (dp 9 (by decide))
   have V10:a.tmps.getD 72 undef=.int .i64 hh:=hI.val 10 72 (by decide) rfl (dp 10 (by decide))
   have V11:a.tmps.getD 73 undef=.slice xa m xc:=hI.val 11 73 (by decide) rfl (dp 11 (by decide))
   refine wCa (f:=227) (args:=#[.slice ua un uc,.slice da dn dc,.int .i64 hh,.slice xa m xc]) ho e4 (by simp[execOp,e3,resolve,invoke,Deferred.ofValue,r32,ev,evf,evc,V5,V9,V10,V11]) ((x12 w hw).mono ?_)
   rintro e W' ⟨b,rfl,hr6,hz6,hb6,hs6⟩
   refine⟨_,rfl,?_⟩
   rw[e2]
   exact go rfl (by decide) hb6 hs6 ⟨b,rfl,hr6,hz6⟩
  ·obtain⟨o',e1,e2,e3,e4,e5⟩:=o13
   obtain rfl:=sOp ho e1
   have dp:=dPo e5 hdep
   have V0:a.tmps.getD 62 undef=.slice (some ⟨B,0,none⟩) K K:=hI.val 0 62 (by decide) rfl (dp 0 (by decide))
   have V1:a.tmps.getD 63 undef=.int .i64 g:=hI.val 1 63 (by decide) rfl (dp 1 (by decide))
   exact wVa (v:=.pointer (some ⟨B,g,none⟩)) (w':=w) ho e4 (by simp[execOp,e3,ev,evc,V0,V1,x13 w]) (by rw[e2];exact go rfl (by decide) (Below.refl _ _) hw rfl)
  ·have hdp:=hdep
   obtain⟨o',e1,e2,e3,e4,e5⟩:=o14
   obtain rfl:=sOp ho e1
   have dp:=dPo e5 hdep
   have d12:l 12=true:=dp 12 (by decide)
   have d13:l 13=true:=dp 13 (by decide)
   have d5:l 5=true:=hcl.dep' o12 d12 5 (by decide)
   have d9:l 9=true:=hcl.dep' o12 d12 9 (by decide)
   have d10:l 10=true:=hcl.dep' o12 d12 10 (by decide)
   have d11:l 11=true:=hcl.dep' o12 d12 11 (by decide)
   have d0:l 0=true:=hcl.dep' o13 d13 0 (by decide)
   have d1:l 1=true:=hcl.dep' o13 d13 1 (by decide)
   have d4:l 4=true:=hcl.dep' o5 d5 4 (by decide)
   have d8:l 8=true:=hcl.dep' o9 d9 8 (by decide)
   have d2:l 2=true:=hcl.dep' o4 d4 2 (by decide)
   have d3:l 3=true:=hcl.dep' o4 d4 3 (by decide)
   have d6:l 6=true:=hcl.dep' o8 d8 6 (by decide)
   have d7:l 7=true:=hcl.dep' o8 d8 7 (by decide)
   have all:∀ j,j<14→l j=true:=by
    intro j hj
    rcases (show j=0∨j=1∨j=2∨j=3∨j=4∨j=5∨j=6∨j=7∨j=8∨j=9∨j=10∨j=11∨j=12∨j=13 by omega) with rfl|rfl|rfl|rfl|rfl|rfl|rfl|rfl|rfl|rfl|rfl|rfl|rfl|rfl<;>assumption
   obtain⟨w',hst,hq⟩:=fin a w hI.size hI.defers hI.kept hI.world (fun i d hi hD=>hI.val i d (by omega) hD (all i hi))
   obtain⟨p1,ep1⟩:∃ p,a.tmps.getD 75 undef=p:=⟨_,rfl⟩
   obtain⟨p2,ep2⟩:∃ p,a.tmps.getD 74 undef=p:=⟨_,rfl⟩
   rw[ep1,ep2] at hst
   refine wSk (w':=w') ho e4 (by simp[execOp,e3,ev,ep1,ep2,hst]) ?_
   rw[e2]
   exact .inl ⟨by simp,hq⟩
 ·intro l a w hall hI
  rcases hI with⟨-,hq⟩|⟨h,-⟩
  ·exact hq
  ·rw[hall 14 (by rw[hsz];decide)] at h
   cases h
end Go.Proofs.YtbkjhfmehemgpaaGreat
