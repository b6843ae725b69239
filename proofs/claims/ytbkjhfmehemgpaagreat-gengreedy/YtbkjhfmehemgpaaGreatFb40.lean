/- Texts put together. -/
import Derived.Test.YtbkjhfmehemgpaaGreatFb35
import Derived.Test.YtbkjhfmehemgpaaGreatFb37
namespace Go.Proofs.YtbkjhfmehemgpaaGreat
set_option maxRecDepth 20000
set_option maxHeartbeats 16000000
open Go.ChangeShapes Go.WideShapes Go.ChangeAt Go.RowKit
set_option linter.unusedVariables false
set_option linter.unusedSimpArgs false
def sfD (i:Nat):Option Nat:=match i with|0=>some 41|1=>some 42|2=>some 43|3=>some 44|4=>some 45|5=>some 46|6=>some 47|7=>some 48|8=>some 49|9=>some 50|10=>some 51|_=>none
theorem sfD_inj:∀ i,i<11→∀ j,j<11→sfD i=sfD j→sfD i≠none→i=j:=by decide
theorem sfD_lt:∀ i,i<11→∀ d,sfD i=some d→d<123:=by
 intro i hi d h
 have:∀ i,i<11→(sfD i).all (fun d=>decide (d<123))=true:=by decide
 have:=this i hi
 rw[h] at this
 simpa using this
def sfF (M:Md)(cb np pc:Nat)(pa:Option Addr)(p sz df wd:Int)(bb:Bool)(i:Nat)(q:Value)(w:World):Prop:=match i with
 | 0=>q=.slice pa np pc
 | 1=>q=.int .i64 p
 | 2=>q=.int .i64 p
 | 3=>q=.pointer (some ⟨cb,7,none⟩)
 | 4=>q=.int .i64 M.n
 | 5=>q=.int .i64 sz
 | 6=>q=.int .i64 df
 | 7=>q=.agg #[.int .i64 M.d,.int .i64 M.h,.int .i64 M.l,.int .i64 M.v,.int .i64 M.u,.int .i64 M.x,.int .i64 M.t,.int .i64 M.n]
 | 8=>q=.int .i64 wd
 | 9=>q=.bool bb
 | 10=>q=.tuple #[]
 | _=>True
theorem sfF_below {M:Md}{cb np pc:Nat}{pa:Option Addr}{p sz df wd:Int}{bb:Bool}{i:Nat}{q:Value}{w w':World}(h:sfF M cb np pc pa p sz df wd bb i q w)(hb:Below w.heap.size w w'):sfF M cb np pc pa p sz df wd bb i q w':=by
 unfold sfF at h ⊢
 split
 ·exact h
 ·exact h
 ·exact h
 ·exact h
 ·exact h
 ·exact h
 ·exact h
 ·exact h
 ·exact h
 ·exact h
 ·exact h
 ·trivial
theorem sf_region {id:Nat}{ops:Array Oper}{Q:Exit→Act→World→Prop}{a0:Act}{w0:World}(M:Md)(cb np pc:Nat)(pa:Option Addr)(p sz df wd:Int)(bb:Bool)(S:World→Prop)(hlow:lowB ops=true)(hsz:ops.size=11)
  (o0:OpIn ops 0 (some 41) (.move (.tmp 2)) none []) (o1:OpIn ops 1 (some 42) (.move (.tmp 3)) none []) (o2:OpIn ops 2 (some 43) (.move (.tmp 3)) none []) (o3:OpIn ops 3 (some 44) (.fieldAddr 23 (.tmp 12) 7) none []) (o4:OpIn ops 4 (some 45) (.load 3 (.tmp 44)) none [3]) (o5:OpIn ops 5 (some 46) (.call { callee:=.value (.func 109),args:=#[.tmp 43,.tmp 45],argTypes:=#[3,3] }) none [2,4]) (o6:OpIn ops 6 (some 47) (.binOp .sub 3 (.tmp 42) (.tmp 46) 3) none [1,5]) (o7:OpIn ops 7 (some 48) (.load 23 (.tmp 12)) none []) (o8:OpIn ops 8 (some 49) (.call { callee:=.value (.func 141),args:=#[.tmp 48],argTypes:=#[23] }) none [7]) (o9:OpIn ops 9 (some 50) (.call { callee:=.value (.func 140),args:=#[.tmp 41,.tmp 47,.tmp 49],argTypes:=#[67,3,3] }) none [0,6,8]) (o10:OpIn ops 10 (some 51) (.call { callee:=.value (.func 139),args:=#[.tmp 50,.const (.int .i64 21)],argTypes:=#[4,40] }) none [9])
  (hS:S w0.drew)
  (x3:∀ w,(Instr.fieldAt 23 (.pointer (some ⟨cb,0,none⟩)) 7).run Tryz.prog w=.ok (.pointer (some ⟨cb,7,none⟩)) w)
  (x4:∀ w,S w→(Instr.loadAt 3 (.pointer (some ⟨cb,7,none⟩))).run Tryz.prog w=.ok (.int .i64 M.n) w)
  (x5:∀ w,Calls Tryz.prog 109 #[.int .i64 p,.int .i64 M.n] w fun e w'=>e=.returned (.int .i64 sz)∧w'=w)
  (x6:∀ w,(binOp .sub 3 (.int .i64 p) (.int .i64 sz)).run Tryz.prog w=.ok (.int .i64 df) w)
  (x7:∀ w,S w→(Instr.loadAt 23 (.pointer (some ⟨cb,0,none⟩))).run Tryz.prog w=.ok (.agg #[.int .i64 M.d,.int .i64 M.h,.int .i64 M.l,.int .i64 M.v,.int .i64 M.u,.int .i64 M.x,.int .i64 M.t,.int .i64 M.n]) w)
  (x8:∀ w,S w→Calls Tryz.prog 141 #[.agg #[.int .i64 M.d,.int .i64 M.h,.int .i64 M.l,.int .i64 M.v,.int .i64 M.u,.int .i64 M.x,.int .i64 M.t,.int .i64 M.n]] w fun e w'=>e=.returned (.int .i64 wd)∧Below w.heap.size w w'∧S w')
  (x9:∀ w,S w→Calls Tryz.prog 140 #[.slice pa np pc,.int .i64 df,.int .i64 wd] w fun e w'=>e=.returned (.bool bb)∧w'=w)
  (x10:∀ w,Calls Tryz.prog 139 #[.bool bb,.int .i64 21] w fun e w'=>e=.returned (.tuple #[])∧w'=w)
  (u2:a0.tmps.getD 2 undef=.slice pa np pc)
  (u3:a0.tmps.getD 3 undef=.int .i64 p)
  (u12:a0.tmps.getD 12 undef=.pointer (some ⟨cb,0,none⟩))
  (hs:123≤a0.tmps.size)
  (fin:∀ a w,a.tmps.size=a0.tmps.size→a.defers=a0.defers→(∀ s,(∀ i,i<11→sfD i≠some s)→a.tmps.getD s undef=a0.tmps.getD s undef)→S w→(∀ i d,i<11→sfD i=some d→sfF M cb np pc pa p sz df wd bb i (a.tmps.getD d undef) w)→Q .normal a w):(Code.region id ops true).wp Tryz.prog Q a0 w0:=by
 have r15:∀ args w,(callFunc 141 args).run Tryz.prog w=.ok (.enter 141 args) w:=eNo Tryz.func141 (by kernel_rfl) rfl
 have r56:∀ args w,(callFunc 139 args).run Tryz.prog w=.ok (.enter 139 args) w:=eNo Tryz.func139 (by kernel_rfl) rfl
 have r57:∀ args w,(callFunc 140 args).run Tryz.prog w=.ok (.enter 140 args) w:=eNo Tryz.func140 (by kernel_rfl) rfl
 have r58:∀ args w,(callFunc 109 args).run Tryz.prog w=.ok (.enter 109 args) w:=eNo Tryz.func109 (by kernel_rfl) rfl
 refine wRi (by kernel_rfl) hlow (Inv 11 sfD a0 (fun l a w=>S w∧Kept2 11 sfD a0 l a) (fun _=>sfF M cb np pc pa p sz df wd bb)) (Inv.start ⟨hS,kept2_start _ _ _⟩) ?_ ?_
 ·intro l i o a w ho hl hcl hdep hI
  have hi:i<11:=by rw[←hsz];exact (Array.getElem?_eq_some_iff.1 ho).1
  have ev:∀ (s:Nat),a.eval (.tmp s)=a.tmps.getD s undef:=fun _=>rfl
  have evf:∀ f,a.eval (.func f)=.func (.func f) #[] #[]:=fun _=>rfl
  have evc:∀ c:Value,a.eval (.const c)=c:=fun _=>rfl
  have inj:∀ d,sfD i=some d→∀ j d',j<11→sfD j=some d'→j≠i→d'≠d:=fun d hd j d' hj hd' hne e=>hne (sfD_inj j hj i hi (by rw[hd',hd,e]) (by rw[hd'];simp))
  have kp:∀ s,(∀ i,i<11→sfD i≠some s)→a.tmps.getD s undef=a0.tmps.getD s undef:=hI.kept
  have hw:S w:=hI.world.1
  have k2:=hI.world.2
  have ex0:=hI.world.2
  have go:∀ {d:Nat}{v:Value}{w':World},sfD i=some d→Below w.heap.size w w'→S w'→sfF M cb np pc pa p sz df wd bb i v w'→Inv 11 sfD a0 (fun l a w=>S w∧Kept2 11 sfD a0 l a) (fun _=>sfF M cb np pc pa p sz df wd bb) (fun j=>l j || j==i) (a.put (some d) v) w':=by
   intro d v w' hD hb hS' hF
   exact hI.put hi hD (Nat.lt_of_lt_of_le (sfD_lt i hi d hD) hs) (inj d hD) ⟨hS',k2.put hD (by rw[hI.size];exact Nat.lt_of_lt_of_le (sfD_lt i hi d hD) hs) hi⟩ hF (fun j u _ _ _ hf=>sfF_below hf hb)
  rcases (show i=0∨i=1∨i=2∨i=3∨i=4∨i=5∨i=6∨i=7∨i=8∨i=9∨i=10 by omega) with rfl|rfl|rfl|rfl|rfl|rfl|rfl|rfl|rfl|rfl|rfl
  ·obtain⟨o',e1,e2,e3,e4,e5⟩:=o0
   obtain rfl:=sOp ho e1
   have dp:=dPo e5 hdep
   have U2:a.tmps.getD 2 undef=.slice pa np pc:=(kp 2 (by decide)).trans u2
   exact wVa (v:=.slice pa np pc) (w':=w) ho e4 (by simp[execOp,e3,ev,evc,U2]) (by rw[e2];exact go rfl (Below.refl _ _) hw rfl)
  ·obtain⟨o',e1,e2,e3,e4,e5⟩:=o1
   obtain rfl:=sOp ho e1
   have dp:=dPo e5 hdep
   have U3:a.tmps.getD 3 undef=.int .i64 p:=(kp 3 (by decide)).trans u3
   exact wVa (v:=.int .i64 p) (w':=w) ho e4 (by simp[execOp,e3,ev,evc,U3]) (by rw[e2];exact go rfl (Below.refl _ _) hw rfl)
  ·obtain⟨o',e1,e2,e3,e4,e5⟩:=o2
   obtain rfl:=sOp ho e1
   have dp:=dPo e5 hdep
   have U3:a.tmps.getD 3 undef=.int .i64 p:=(kp 3 (by decide)).trans u3
   exact wVa (v:=.int .i64 p) (w':=w) ho e4 (by simp[execOp,e3,ev,evc,U3]) (by rw[e2];exact go rfl (Below.refl _ _) hw rfl)
  ·obtain⟨o',e1,e2,e3,e4,e5⟩:=o3
   obtain rfl:=sOp ho e1
   have dp:=dPo e5 hdep
   have U12:a.tmps.getD 12 undef=.pointer (some ⟨cb,0,none⟩):=(kp 12 (by decide)).trans u12
   exact wVa (v:=.pointer (some ⟨cb,7,none⟩)) (w':=w) ho e4 (by simp[execOp,e3,ev,evc,U12,x3 w]) (by rw[e2];exact go rfl (Below.refl _ _) hw rfl)
  ·obtain⟨o',e1,e2,e3,e4,e5⟩:=o4
   obtain rfl:=sOp ho e1
   have dp:=dPo e5 hdep
   have V3:a.tmps.getD 44 undef=.pointer (some ⟨cb,7,none⟩):=hI.val 3 44 (by decide) rfl (dp 3 (by decide))
   exact wVa (v:=.int .i64 M.n) (w':=w) ho e4 (by simp[execOp,e3,ev,evc,V3,x4 w hw]) (by rw[e2];exact go rfl (Below.refl _ _) hw rfl)
  ·obtain⟨o',e1,e2,e3,e4,e5⟩:=o5
   obtain rfl:=sOp ho e1
   have dp:=dPo e5 hdep
   have V2:a.tmps.getD 43 undef=.int .i64 p:=hI.val 2 43 (by decide) rfl (dp 2 (by decide))
   have V4:a.tmps.getD 45 undef=.int .i64 M.n:=hI.val 4 45 (by decide) rfl (dp 4 (by decide))
   refine wCa (f:=109) (args:=#[.int .i64 p,.int .i64 M.n]) ho e4 (by simp[execOp,e3,resolve,invoke,Deferred.ofValue,r58,ev,evf,evc,V2,V4]) ((x5 w).mono ?_)
   rintro e W' ⟨rfl,hq6⟩
   refine⟨_,rfl,?_⟩
   rw[e2]
   exact go rfl (by rw[hq6];exact Below.refl _ _) (by rw[hq6];exact hw) rfl
  ·obtain⟨o',e1,e2,e3,e4,e5⟩:=o6
   obtain rfl:=sOp ho e1
   have dp:=dPo e5 hdep
   have V1:a.tmps.getD 42 undef=.int .i64 p:=hI.val 1 42 (by decide) rfl (dp 1 (by decide))
   have V5:a.tmps.getD 46 undef=.int .i64 sz:=hI.val 5 46 (by decide) rfl (dp 5 (by decide))
   exact wVa (v:=.int .i64 df) (w':=w) ho e4 (by simp[execOp,e3,ev,evc,V1,V5,x6 w,eqGuard]) (by rw[e2];exact go rfl (Below.refl _ _) hw rfl)
  ·obtain⟨o',e1,e2,e3,e4,e5⟩:=o7
   obtain rfl:=sOp ho e1
   have dp:=dPo e5 hdep
   have U12:a.tmps.getD 12 undef=.pointer (some ⟨cb,0,none⟩):=(kp 12 (by decide)).trans u12
   exact wVa (v:=.agg #[.int .i64 M.d,.int .i64 M.h,.int .i64 M.l,.int .i64 M.v,.int .i64 M.u,.int .i64 M.x,.int .i64 M.t,.int .i64 M.n]) (w':=w) ho e4 (by simp[execOp,e3,ev,evc,U12,x7 w hw]) (by rw[e2];exact go rfl (Below.refl _ _) hw rfl)
  ·obtain⟨o',e1,e2,e3,e4,e5⟩:=o8
   obtain rfl:=sOp ho e1
   have dp:=dPo e5 hdep
   have V7:a.tmps.getD 48 undef=.agg #[.int .i64 M.d,.int .i64 M.h,.int .i64 M.l,.int .i64 M.v,.int .i64 M.u,.int .i64 M.x,.int .i64 M.t,.int .i64 M.n]:=hI.val 7 48 (by decide) rfl (dp 7 (by decide))
   refine wCa (f:=141) (args:=#[.agg #[.int .i64 M.d,.int .i64 M.h,.int .i64 M.l,.int .i64 M.v,.int .i64 M.u,.int .i64 M.x,.int .i64 M.t,.int .i64 M.n]]) ho e4 (by simp[execOp,e3,resolve,invoke,Deferred.ofValue,r15,ev,evf,evc,V7]) ((x8 w hw).mono ?_)
   rintro e W' ⟨rfl,hb6,hs6⟩
   refine⟨_,rfl,?_⟩
   rw[e2]
   exact go rfl hb6 hs6 rfl
  ·obtain⟨o',e1,e2,e3,e4,e5⟩:=o9
   obtain rfl:=sOp ho e1
   have dp:=dPo e5 hdep
   have V0:a.tmps.getD 41 undef=.slice pa np pc:=hI.val 0 41 (by decide) rfl (dp 0 (by decide))
   have V6:a.tmps.getD 47 undef=.int .i64 df:=hI.val 6 47 (by decide) rfl (dp 6 (by decide))
   have V8:a.tmps.getD 49 undef=.int .i64 wd:=hI.val 8 49 (by decide) rfl (dp 8 (by decide))
   refine wCa (f:=140) (args:=#[.slice pa np pc,.int .i64 df,.int .i64 wd]) ho e4 (by simp[execOp,e3,resolve,invoke,Deferred.ofValue,r57,ev,evf,evc,V0,V6,V8]) ((x9 w hw).mono ?_)
   rintro e W' ⟨rfl,hq6⟩
   refine⟨_,rfl,?_⟩
   rw[e2]
   exact go rfl (by rw[hq6];exact Below.refl _ _) (by rw[hq6];exact hw) rfl
  ·obtain⟨o',e1,e2,e3,e4,e5⟩:=o10
   obtain rfl:=sOp ho e1
   have dp:=dPo e5 hdep
   have V9:a.tmps.getD 50 undef=.bool bb:=hI.val 9 50 (by decide) rfl (dp 9 (by decide))
   refine wCa (f:=139) (args:=#[.bool bb,.int .i64 21]) ho e4 (by simp[execOp,e3,resolve,invoke,Deferred.ofValue,r56,ev,evf,evc,V9]) ((x10 w).mono ?_)
   rintro e W' ⟨rfl,hq6⟩
   refine⟨_,rfl,?_⟩
   rw[e2]
   exact go rfl (by rw[hq6];exact Below.refl _ _) (by rw[hq6];exact hw) rfl
 ·intro l a w hall hI
  have all:∀ j,j<11→l j=true:=fun j hj=>hall j (by rw[hsz];exact hj)
  exact fin a w hI.size hI.defers hI.kept hI.world.1 (fun i d hi hD=>hI.val i d hi hD (all i hi))
def scD (i:Nat):Option Nat:=match i with|0=>some 76|1=>some 77|2=>some 78|3=>some 79|4=>some 80|5=>some 81|6=>some 82|7=>some 83|8=>some 84|9=>some 85|10=>some 86|11=>some 87|12=>some 88|13=>some 20|14=>some 21|_=>none
theorem scD_inj:∀ i,i<15→∀ j,j<15→scD i=scD j→scD i≠none→i=j:=by decide
theorem scD_lt:∀ i,i<15→∀ d,scD i=some d→d<123:=by
 intro i hi d h
 have:∀ i,i<15→(scD i).all (fun d=>decide (d<123))=true:=by decide
 have:=this i hi
 rw[h] at this
 simpa using this
def scF (cb n pc f1 f2 g:Nat)(pa:Option Addr)(dd:Int)(A1 A2:Nat→Option Addr)(C1:Nat→Nat)(K V:Nat→List Int)(i:Nat)(q:Value)(w:World):Prop:=match i with
 | 0=>q=.slice pa n pc
 | 1=>q=.int .i64 f1
 | 2=>q=.pointer (some ⟨cb,0,none⟩)
 | 3=>q=.int .i64 dd
 | 4=>q=.slice (some ⟨g,0,none⟩) n (n+1)∧OwnGrid g w (.slice (some ⟨g,0,none⟩) n (n+1)) n A1 C1 K
 | 5=>q=.slice pa n pc
 | 6=>q=.int .i64 f1
 | 7=>q=.pointer (some ⟨cb,0,none⟩)
 | 8=>q=.int .i64 dd
 | 9=>q=.int .i64 f2
 | 10=>q=.pointer (some ⟨cb,0,none⟩)
 | 11=>q=.int .i64 dd
 | 12=>∃ b,q=.slice (some ⟨b,0,none⟩) n (n+1)∧g<b∧OwnGrid g w (.slice (some ⟨b,0,none⟩) n (n+1)) n A2 C1 V
 | 13=>q=.slice (some ⟨g,0,none⟩) n (n+1)∧OwnGrid g w (.slice (some ⟨g,0,none⟩) n (n+1)) n A1 C1 K
 | 14=>∃ b,q=.slice (some ⟨b,0,none⟩) n (n+1)∧g<b∧OwnGrid g w (.slice (some ⟨b,0,none⟩) n (n+1)) n A2 C1 V
 | _=>True
theorem scF_below {cb n pc f1 f2 g:Nat}{pa:Option Addr}{dd:Int}{A1 A2:Nat→Option Addr}{C1:Nat→Nat}{K V:Nat→List Int}{i:Nat}{q:Value}{w w':World}(h:scF cb n pc f1 f2 g pa dd A1 A2 C1 K V i q w)(hb:Below w.heap.size w w'):scF cb n pc f1 f2 g pa dd A1 A2 C1 K V i q w':=by
 unfold scF at h ⊢
 split
 ·exact h
 ·exact h
 ·exact h
 ·exact h
 ·exact⟨h.1,h.2.below hb⟩
 ·exact h
 ·exact h
 ·exact h
 ·exact h
 ·exact h
 ·exact h
 ·exact h
 ·obtain⟨b,h1,h2,h3⟩:=h;exact⟨b,h1,h2,h3.below hb⟩
 ·exact⟨h.1,h.2.below hb⟩
 ·obtain⟨b,h1,h2,h3⟩:=h;exact⟨b,h1,h2,h3.below hb⟩
 ·trivial
theorem sc_region {id:Nat}{ops:Array Oper}{Q:Exit→Act→World→Prop}{a0:Act}{w0:World}(cb n pc f1 f2 g:Nat)(pa:Option Addr)(dd:Int)(A1 A2:Nat→Option Addr)(C1:Nat→Nat)(K V:Nat→List Int)(S:World→Prop)(hlow:lowB ops=true)(hsz:ops.size=15)
  (o0:OpIn ops 0 (some 76) (.move (.tmp 2)) none []) (o1:OpIn ops 1 (some 77) (.move (.tmp 19)) none []) (o2:OpIn ops 2 (some 78) (.fieldAddr 23 (.tmp 12) 0) none []) (o3:OpIn ops 3 (some 79) (.load 3 (.tmp 78)) none [2]) (o4:OpIn ops 4 (some 80) (.call { callee:=.value (.func 144),args:=#[.tmp 76,.tmp 77,.tmp 79],argTypes:=#[67,3,3] }) none [0,1,3]) (o5:OpIn ops 5 (some 81) (.move (.tmp 2)) none []) (o6:OpIn ops 6 (some 82) (.move (.tmp 19)) none []) (o7:OpIn ops 7 (some 83) (.fieldAddr 23 (.tmp 12) 0) none []) (o8:OpIn ops 8 (some 84) (.load 3 (.tmp 83)) none [7]) (o9:OpIn ops 9 (some 85) (.binOp .add 3 (.tmp 82) (.tmp 84) 3) none [6,8]) (o10:OpIn ops 10 (some 86) (.fieldAddr 23 (.tmp 12) 0) none []) (o11:OpIn ops 11 (some 87) (.load 3 (.tmp 86)) none [10]) (o12:OpIn ops 12 (some 88) (.call { callee:=.value (.func 144),args:=#[.tmp 81,.tmp 85,.tmp 87],argTypes:=#[67,3,3] }) none [4,5,9,11]) (o13:OpIn ops 13 (some 20) (.assign (.tmp 80)) none [4]) (o14:OpIn ops 14 (some 21) (.assign (.tmp 88)) none [12])
  (hS:S w0.drew)
  (x2:∀ w,(Instr.fieldAt 23 (.pointer (some ⟨cb,0,none⟩)) 0).run Tryz.prog w=.ok (.pointer (some ⟨cb,0,none⟩)) w)
  (x3:∀ w,S w→(Instr.loadAt 3 (.pointer (some ⟨cb,0,none⟩))).run Tryz.prog w=.ok (.int .i64 dd) w)
  (x4:∀ w,S w→w.heap.size=g→Calls Tryz.prog 144 #[.slice pa n pc,.int .i64 f1,.int .i64 dd] w fun e w'=>e=.returned (.slice (some ⟨g,0,none⟩) n (n+1))∧OwnGrid g w' (.slice (some ⟨g,0,none⟩) n (n+1)) n A1 C1 K∧Below w.heap.size w w'∧S w')
  (x7:∀ w,(Instr.fieldAt 23 (.pointer (some ⟨cb,0,none⟩)) 0).run Tryz.prog w=.ok (.pointer (some ⟨cb,0,none⟩)) w)
  (x8:∀ w,S w→(Instr.loadAt 3 (.pointer (some ⟨cb,0,none⟩))).run Tryz.prog w=.ok (.int .i64 dd) w)
  (x9:∀ w,(binOp .add 3 (.int .i64 f1) (.int .i64 dd)).run Tryz.prog w=.ok (.int .i64 f2) w)
  (x10:∀ w,(Instr.fieldAt 23 (.pointer (some ⟨cb,0,none⟩)) 0).run Tryz.prog w=.ok (.pointer (some ⟨cb,0,none⟩)) w)
  (x11:∀ w,S w→(Instr.loadAt 3 (.pointer (some ⟨cb,0,none⟩))).run Tryz.prog w=.ok (.int .i64 dd) w)
  (x12:∀ w,S w→g<w.heap.size→Calls Tryz.prog 144 #[.slice pa n pc,.int .i64 f2,.int .i64 dd] w fun e w'=>∃ b,e=.returned (.slice (some ⟨b,0,none⟩) n (n+1))∧g<b∧OwnGrid g w' (.slice (some ⟨b,0,none⟩) n (n+1)) n A2 C1 V∧Below w.heap.size w w'∧S w')
  (u2:a0.tmps.getD 2 undef=.slice pa n pc)
  (u12:a0.tmps.getD 12 undef=.pointer (some ⟨cb,0,none⟩))
  (u19:a0.tmps.getD 19 undef=.int .i64 f1)
  (hg:w0.heap.size=g)
  (hs:123≤a0.tmps.size)
  (fin:∀ a w,a.tmps.size=a0.tmps.size→a.defers=a0.defers→(∀ s,(∀ i,i<15→scD i≠some s)→a.tmps.getD s undef=a0.tmps.getD s undef)→S w→(∀ i d,i<15→scD i=some d→scF cb n pc f1 f2 g pa dd A1 A2 C1 K V i (a.tmps.getD d undef) w)→Q .normal a w):(Code.region id ops true).wp Tryz.prog Q a0 w0:=by
 have r61:∀ args w,(callFunc 144 args).run Tryz.prog w=.ok (.enter 144 args) w:=eNo Tryz.func144 (by kernel_rfl) rfl
 refine wRi (by kernel_rfl) hlow (Inv 15 scD a0 (fun l a w=>S w∧Kept2 15 scD a0 l a∧(l 4=false→w.heap.size=g)) (fun _=>scF cb n pc f1 f2 g pa dd A1 A2 C1 K V)) (Inv.start ⟨hS,kept2_start _ _ _,(fun _=>hg)⟩) ?_ ?_
 ·intro l i o a w ho hl hcl hdep hI
  have hi:i<15:=by rw[←hsz];exact (Array.getElem?_eq_some_iff.1 ho).1
  have ev:∀ (s:Nat),a.eval (.tmp s)=a.tmps.getD s undef:=fun _=>rfl
  have evf:∀ f,a.eval (.func f)=.func (.func f) #[] #[]:=fun _=>rfl
  have evc:∀ c:Value,a.eval (.const c)=c:=fun _=>rfl
  have inj:∀ d,scD i=some d→∀ j d',j<15→scD j=some d'→j≠i→d'≠d:=fun d hd j d' hj hd' hne e=>hne (scD_inj j hj i hi (by rw[hd',hd,e]) (by rw[hd'];simp))
  have kp:∀ s,(∀ i,i<15→scD i≠some s)→a.tmps.getD s undef=a0.tmps.getD s undef:=hI.kept
  have hw:S w:=hI.world.1
  have k2:=hI.world.2.1
  have ex0:=hI.world.2
  have go:∀ {d:Nat}{v:Value}{w':World},scD i=some d→Below w.heap.size w w'→S w'→((l 4 || 4==i)=false→w'.heap.size=g)→scF cb n pc f1 f2 g pa dd A1 A2 C1 K V i v w'→Inv 15 scD a0 (fun l a w=>S w∧Kept2 15 scD a0 l a∧(l 4=false→w.heap.size=g)) (fun _=>scF cb n pc f1 f2 g pa dd A1 A2 C1 K V) (fun j=>l j || j==i) (a.put (some d) v) w':=by
   intro d v w' hD hb hS' hX hF
   exact hI.put hi hD (Nat.lt_of_lt_of_le (scD_lt i hi d hD) hs) (inj d hD) ⟨hS',k2.put hD (by rw[hI.size];exact Nat.lt_of_lt_of_le (scD_lt i hi d hD) hs) hi,hX⟩ hF (fun j u _ _ _ hf=>scF_below hf hb)
  rcases (show i=0∨i=1∨i=2∨i=3∨i=4∨i=5∨i=6∨i=7∨i=8∨i=9∨i=10∨i=11∨i=12∨i=13∨i=14 by omega) with rfl|rfl|rfl|rfl|rfl|rfl|rfl|rfl|rfl|rfl|rfl|rfl|rfl|rfl|rfl
  ·obtain⟨o',e1,e2,e3,e4,e5⟩:=o0
   obtain rfl:=sOp ho e1
   have dp:=dPo e5 hdep
   have U2:a.tmps.getD 2 undef=.slice pa n pc:=(kp 2 (by decide)).trans u2
   exact wVa (v:=.slice pa n pc) (w':=w) ho e4 (by simp[execOp,e3,ev,evc,U2]) (by rw[e2];exact go rfl (Below.refl _ _) hw (fun e=>ex0.2 (by simpa using e)) rfl)
  ·obtain⟨o',e1,e2,e3,e4,e5⟩:=o1
   obtain rfl:=sOp ho e1
   have dp:=dPo e5 hdep
   have U19:a.tmps.getD 19 undef=.int .i64 f1:=(kp 19 (by decide)).trans u19
   exact wVa (v:=.int .i64 f1) (w':=w) ho e4 (by simp[execOp,e3,ev,evc,U19]) (by rw[e2];exact go rfl (Below.refl _ _) hw (fun e=>ex0.2 (by simpa using e)) rfl)
  ·obtain⟨o',e1,e2,e3,e4,e5⟩:=o2
   obtain rfl:=sOp ho e1
   have dp:=dPo e5 hdep
   have U12:a.tmps.getD 12 undef=.pointer (some ⟨cb,0,none⟩):=(kp 12 (by decide)).trans u12
   exact wVa (v:=.pointer (some ⟨cb,0,none⟩)) (w':=w) ho e4 (by simp[execOp,e3,ev,evc,U12,x2 w]) (by rw[e2];exact go rfl (Below.refl _ _) hw (fun e=>ex0.2 (by simpa using e)) rfl)
  ·obtain⟨o',e1,e2,e3,e4,e5⟩:=o3
   obtain rfl:=sOp ho e1
   have dp:=dPo e5 hdep
   have V2:a.tmps.getD 78 undef=.pointer (some ⟨cb,0,none⟩):=hI.val 2 78 (by decide) rfl (dp 2 (by decide))
   exact wVa (v:=.int .i64 dd) (w':=w) ho e4 (by simp[execOp,e3,ev,evc,V2,x3 w hw]) (by rw[e2];exact go rfl (Below.refl _ _) hw (fun e=>ex0.2 (by simpa using e)) rfl)
  ·obtain⟨o',e1,e2,e3,e4,e5⟩:=o4
   obtain rfl:=sOp ho e1
   have dp:=dPo e5 hdep
   have V0:a.tmps.getD 76 undef=.slice pa n pc:=hI.val 0 76 (by decide) rfl (dp 0 (by decide))
   have V1:a.tmps.getD 77 undef=.int .i64 f1:=hI.val 1 77 (by decide) rfl (dp 1 (by decide))
   have V3:a.tmps.getD 79 undef=.int .i64 dd:=hI.val 3 79 (by decide) rfl (dp 3 (by decide))
   refine wCa (f:=144) (args:=#[.slice pa n pc,.int .i64 f1,.int .i64 dd]) ho e4 (by simp[execOp,e3,resolve,invoke,Deferred.ofValue,r61,ev,evf,evc,V0,V1,V3]) ((x4 w hw (ex0.2 hl)).mono ?_)
   rintro e W' ⟨rfl,ho6,hb6,hs6⟩
   refine⟨_,rfl,?_⟩
   rw[e2]
   exact go rfl hb6 hs6 (fun e=>by simp at e) ⟨rfl,ho6⟩
  ·obtain⟨o',e1,e2,e3,e4,e5⟩:=o5
   obtain rfl:=sOp ho e1
   have dp:=dPo e5 hdep
   have U2:a.tmps.getD 2 undef=.slice pa n pc:=(kp 2 (by decide)).trans u2
   exact wVa (v:=.slice pa n pc) (w':=w) ho e4 (by simp[execOp,e3,ev,evc,U2]) (by rw[e2];exact go rfl (Below.refl _ _) hw (fun e=>ex0.2 (by simpa using e)) rfl)
  ·obtain⟨o',e1,e2,e3,e4,e5⟩:=o6
   obtain rfl:=sOp ho e1
   have dp:=dPo e5 hdep
   have U19:a.tmps.getD 19 undef=.int .i64 f1:=(kp 19 (by decide)).trans u19
   exact wVa (v:=.int .i64 f1) (w':=w) ho e4 (by simp[execOp,e3,ev,evc,U19]) (by rw[e2];exact go rfl (Below.refl _ _) hw (fun e=>ex0.2 (by simpa using e)) rfl)
  ·obtain⟨o',e1,e2,e3,e4,e5⟩:=o7
   obtain rfl:=sOp ho e1
   have dp:=dPo e5 hdep
   have U12:a.tmps.getD 12 undef=.pointer (some ⟨cb,0,none⟩):=(kp 12 (by decide)).trans u12
   exact wVa (v:=.pointer (some ⟨cb,0,none⟩)) (w':=w) ho e4 (by simp[execOp,e3,ev,evc,U12,x7 w]) (by rw[e2];exact go rfl (Below.refl _ _) hw (fun e=>ex0.2 (by simpa using e)) rfl)
  ·obtain⟨o',e1,e2,e3,e4,e5⟩:=o8
   obtain rfl:=sOp ho e1
   have dp:=dPo e5 hdep
   have V7:a.tmps.getD 83 undef=.pointer (some ⟨cb,0,none⟩):=hI.val 7 83 (by decide) rfl (dp 7 (by decide))
   exact wVa (v:=.int .i64 dd) (w':=w) ho e4 (by simp[execOp,e3,ev,evc,V7,x8 w hw]) (by rw[e2];exact go rfl (Below.refl _ _) hw (fun e=>ex0.2 (by simpa using e)) rfl)
  ·obtain⟨o',e1,e2,e3,e4,e5⟩:=o9
   obtain rfl:=sOp ho e1
   have dp:=dPo e5 hdep
   have V6:a.tmps.getD 82 undef=.int .i64 f1:=hI.val 6 82 (by decide) rfl (dp 6 (by decide))
   have V8:a.tmps.getD 84 undef=.int .i64 dd:=hI.val 8 84 (by decide) rfl (dp 8 (by decide))
   exact wVa (v:=.int .i64 f2) (w':=w) ho e4 (by simp[execOp,e3,ev,evc,V6,V8,x9 w,eqGuard]) (by rw[e2];exact go rfl (Below.refl _ _) hw (fun e=>ex0.2 (by simpa using e)) rfl)
  ·obtain⟨o',e1,e2,e3,e4,e5⟩:=o10
   obtain rfl:=sOp ho e1
   have dp:=dPo e5 hdep
   have U12:a.tmps.getD 12 undef=.pointer (some ⟨cb,0,none⟩):=(kp 12 (by decide)).trans u12
   exact wVa (v:=.pointer (some ⟨cb,0,none⟩)) (w':=w) ho e4 (by simp[execOp,e3,ev,evc,U12,x10 w]) (by rw[e2];exact go rfl (Below.refl _ _) hw (fun e=>ex0.2 (by simpa using e)) rfl)
  ·obtain⟨o',e1,e2,e3,e4,e5⟩:=o11
   obtain rfl:=sOp ho e1
   have dp:=dPo e5 hdep
   have V10:a.tmps.getD 86 undef=.pointer (some ⟨cb,0,none⟩):=hI.val 10 86 (by decide) rfl (dp 10 (by decide))
   exact wVa (v:=.int .i64 dd) (w':=w) ho e4 (by simp[execOp,e3,ev,evc,V10,x11 w hw]) (by rw[e2];exact go rfl (Below.refl _ _) hw (fun e=>ex0.2 (by simpa using e)) rfl)
  ·obtain⟨o',e1,e2,e3,e4,e5⟩:=o12
   obtain rfl:=sOp ho e1
   have dp:=dPo e5 hdep
   obtain⟨V4,f4⟩:a.tmps.getD 80 undef=.slice (some ⟨g,0,none⟩) n (n+1)∧OwnGrid g w (.slice (some ⟨g,0,none⟩) n (n+1)) n A1 C1 K:=hI.val 4 80 (by decide) rfl (dp 4 (by decide))
   have V5:a.tmps.getD 81 undef=.slice pa n pc:=hI.val 5 81 (by decide) rfl (dp 5 (by decide))
   have V9:a.tmps.getD 85 undef=.int .i64 f2:=hI.val 9 85 (by decide) rfl (dp 9 (by decide))
   have V11:a.tmps.getD 87 undef=.int .i64 dd:=hI.val 11 87 (by decide) rfl (dp 11 (by decide))
   refine wCa (f:=144) (args:=#[.slice pa n pc,.int .i64 f2,.int .i64 dd]) ho e4 (by simp[execOp,e3,resolve,invoke,Deferred.ofValue,r61,ev,evf,evc,V4,V5,V9,V11]) ((x12 w hw (f4.own.lt g rfl).2).mono ?_)
   rintro e W' ⟨b,rfl,hz6,ho6,hb6,hs6⟩
   refine⟨_,rfl,?_⟩
   rw[e2]
   exact go rfl hb6 hs6 (fun e=>by rw[dp 4 (by decide)] at e;simp at e) ⟨b,rfl,hz6,ho6⟩
  ·obtain⟨o',e1,e2,e3,e4,e5⟩:=o13
   obtain rfl:=sOp ho e1
   have dp:=dPo e5 hdep
   obtain⟨V4,f4⟩:a.tmps.getD 80 undef=.slice (some ⟨g,0,none⟩) n (n+1)∧OwnGrid g w (.slice (some ⟨g,0,none⟩) n (n+1)) n A1 C1 K:=hI.val 4 80 (by decide) rfl (dp 4 (by decide))
   exact wVa (v:=.slice (some ⟨g,0,none⟩) n (n+1)) (w':=w) ho e4 (by simp[execOp,e3,ev,evc,V4]) (by rw[e2];exact go rfl (Below.refl _ _) hw (fun e=>ex0.2 (by simpa using e)) ⟨rfl,f4⟩)
  ·obtain⟨o',e1,e2,e3,e4,e5⟩:=o14
   obtain rfl:=sOp ho e1
   have dp:=dPo e5 hdep
   obtain⟨b12,V12,z12,f12⟩:∃ b,a.tmps.getD 88 undef=.slice (some ⟨b,0,none⟩) n (n+1)∧g<b∧OwnGrid g w (.slice (some ⟨b,0,none⟩) n (n+1)) n A2 C1 V:=hI.val 12 88 (by decide) rfl (dp 12 (by decide))
   exact wVa (v:=.slice (some ⟨b12,0,none⟩) n (n+1)) (w':=w) ho e4 (by simp[execOp,e3,ev,evc,V12]) (by rw[e2];exact go rfl (Below.refl _ _) hw (fun e=>ex0.2 (by simpa using e)) ⟨_,rfl,z12,f12⟩)
 ·intro l a w hall hI
  have all:∀ j,j<15→l j=true:=fun j hj=>hall j (by rw[hsz];exact hj)
  exact fin a w hI.size hI.defers hI.kept hI.world.1 (fun i d hi hD=>hI.val i d hi hD (all i hi))
section
def ModIn (lo hi:Nat)(w:World)(E L N O:SL)(Y U D:Nat→Nat→SL)(m:ModV):Prop :=
 ∀ w',(∀ p v,w.cell? p=some v→lo≤p.block→p.block<hi→w'.cell? p=some v)→ModAt w' E L N O Y U D m
theorem NewM.within {base:Nat}{w:World}{E L N O:SL}{Y U D:Nat→Nat→SL}{m:ModV}(h:NewM base w E L N O Y U D m):ModIn base w.heap.size w E L N O Y U D m :=
 fun w' hc=>h w' fun p v hp hle=>hc p v hp hle (World.block_lt_of_cell? w _ hp)
theorem ModIn.below {lo hi:Nat}{w w':World}{E L N O:SL}{Y U D:Nat→Nat→SL}{m:ModV}(h:ModIn lo hi w E L N O Y U D m)(hb:Below w.heap.size w w'):ModIn lo hi w' E L N O Y U D m :=
 fun w'' hc=>h w'' fun p v hp h1 h2=>hc p v ((hb.cell (World.block_lt_of_cell? w _ hp)).trans hp) h1 h2
theorem ModIn.only {lo hi b : Nat} {w w' : World} {E L N O : SL} {Y U D : Nat → Nat → SL} {m : ModV} (h : ModIn lo hi w E L N O Y U D m) (o : Only b w w') (hb : b < lo ∨ hi ≤ b) : ModIn lo hi w' E L N O Y U D m :=
  fun w'' hc => h w'' fun p v hp h1 h2 => hc p v (o.cell hp (fun e => by have e' : p.block = b := by simpa using e
                                                                         omega)) h1 h2
def AdIn (lo hi:Nat)(w:World)(L:SL)(Y:Nat→Nat→SL)(m:AdV):Prop :=
 ∀ w',(∀ p v,w.cell? p=some v→lo≤p.block→p.block<hi→w'.cell? p=some v)→AdAt w' L Y m
theorem NewA.within {base:Nat}{w:World}{L:SL}{Y:Nat→Nat→SL}{m:AdV}(h:NewA base w L Y m):AdIn base w.heap.size w L Y m :=
 fun w' hc=>h w' fun p v hp hle=>hc p v hp hle (World.block_lt_of_cell? w _ hp)
theorem AdIn.below {lo hi:Nat}{w w':World}{L:SL}{Y:Nat→Nat→SL}{m:AdV}(h:AdIn lo hi w L Y m)(hb:Below w.heap.size w w'):AdIn lo hi w' L Y m :=
 fun w'' hc=>h w'' fun p v hp h1 h2=>hc p v ((hb.cell (World.block_lt_of_cell? w _ hp)).trans hp) h1 h2
theorem AdIn.only {lo hi b : Nat} {w w' : World} {L : SL} {Y : Nat → Nat → SL} {m : AdV} (h : AdIn lo hi w L Y m) (o : Only b w w') (hb : b < lo ∨ hi ≤ b) : AdIn lo hi w' L Y m :=
  fun w'' hc => h w'' fun p v hp h1 h2 => hc p v (o.cell hp (fun e => by have e' : p.block = b := by simpa using e
                                                                         omega)) h1 h2
section
variable {M:Md}{g:Nat}{c p q s:Bool}{v v1 v2:Value}{w w':World}
end
theorem run_alloc27 (w:World):(Instr.alloc 34 true (.tuple #[])).run Tryz.prog w=.ok (.pointer (some ⟨w.heap.size,0,none⟩)) (w.alloc (.cells #[.int .i64 0,.int .i64 0,.int .i64 0,.int .i64 0,.int .i64 0,.int .i64 0,.int .i64 0,.int .i64 0,.slice none 0 0,.slice none 0 0,.slice none 0 0,.slice none 0 0] 34)):=by go_simp
theorem run_alloc30 (w:World):(Instr.alloc 37 true (.tuple #[])).run Tryz.prog w=.ok (.pointer (some ⟨w.heap.size,0,none⟩)) (w.alloc (.cells #[.int .i64 0,.int .i64 0,.slice none 0 0] 37)):=by go_simp
theorem run_store34 {w:World}{b:Nat}(q:Blk 34 w b #[.int .i64 0,.int .i64 0,.int .i64 0,.int .i64 0,.int .i64 0,.int .i64 0,.int .i64 0,.int .i64 0,.slice none 0 0,.slice none 0 0,.slice none 0 0,.slice none 0 0])(M:Md)(E L N O:SL):∃ w',(Instr.storeAt 34 (.pointer (some ⟨b,0,none⟩)) (.agg #[.int .i64 M.d,.int .i64 M.h,.int .i64 M.l,.int .i64 M.v,.int .i64 M.u,.int .i64 M.x,.int .i64 M.t,.int .i64 M.n,.slice E.a E.n E.c,.slice L.a L.n L.c,.slice N.a N.n N.c,.slice O.a O.n O.c])).run Tryz.prog w=.ok () w'∧Blk 34 w' b #[.int .i64 M.d,.int .i64 M.h,.int .i64 M.l,.int .i64 M.v,.int .i64 M.u,.int .i64 M.x,.int .i64 M.t,.int .i64 M.n,.slice E.a E.n E.c,.slice L.a L.n L.c,.slice N.a N.n N.c,.slice O.a O.n O.c]∧Only b w w'∧w'.heap.size=w.heap.size:=by
 obtain⟨c0,c1,c2,c3,c4,c5,c6,c7,c8,c9,c10,c11⟩:=q.c12
 obtain⟨o0,o1,o2,o3,o4,o5,o6,o7,o8,o9,o10,o11⟩:=q.o12
 obtain⟨W2,eW,q2,only,hz⟩:=set12 q (.int .i64 M.d) (.int .i64 M.h) (.int .i64 M.l) (.int .i64 M.v) (.int .i64 M.u) (.int .i64 M.x) (.int .i64 M.t) (.int .i64 M.n) (.slice E.a E.n E.c) (.slice L.a L.n L.c) (.slice N.a N.n N.c) (.slice O.a O.n O.c)
 exact⟨W2,by rw[←eW];go_simp,q2,only,hz⟩
theorem run_store37 {w:World}{b:Nat}(q:Blk 37 w b #[.int .i64 0,.int .i64 0,.slice none 0 0])(M:Md)(La:SL):∃ w',(Instr.storeAt 37 (.pointer (some ⟨b,0,none⟩)) (.agg #[.int .i64 M.r,.int .i64 M.s,.slice La.a La.n La.c])).run Tryz.prog w=.ok () w'∧Blk 37 w' b #[.int .i64 M.r,.int .i64 M.s,.slice La.a La.n La.c]∧Only b w w'∧w'.heap.size=w.heap.size:=by
 obtain⟨c0,c1,c2⟩:=q.c3
 obtain⟨o0,o1,o2,-⟩:=q.o12
 obtain⟨W2,eW,q2,only,hz⟩:=set3 q (.int .i64 M.r) (.int .i64 M.s) (.slice La.a La.n La.c)
 exact⟨W2,by rw[←eW];go_simp,q2,only,hz⟩
end
section
structure InLaw {T:Type} (I:T→Nat→Nat→World→Prop):Prop where
 below:∀ {t lo hi}{w w':World},I t lo hi w→Below w.heap.size w w'→I t lo hi w'
 only:∀ {t lo hi b}{w w':World},I t lo hi w→Only b w w'→(b<lo∨hi≤b)→I t lo hi w'
def CX {T:Type}(V:T→Value)(cs:T→Array Value)(I:T→Nat→Nat→World→Prop)(ty:TypeId)(ee:Int)(g:Nat)(c m x p s:Bool)(vc vm vx v1:Value)(w:World):Prop :=
 c=true→∃ t lo hi,vc=.tuple #[V t,.int .i64 ee]∧(m=true→vm=.tuple #[V t,.int .i64 ee])∧(x=true→vx=V t)∧g≤lo∧hi≤w.heap.size∧I t lo hi w∧(p=true→∀ b,v1=.pointer (some ⟨b,0,none⟩)→b<lo∨hi≤b)∧(s=true→∃ b,v1=.pointer (some ⟨b,0,none⟩)∧g≤b∧Blk ty w b (cs t))
section
variable {T:Type}{V:T→Value}{cs:T→Array Value}{I:T→Nat→Nat→World→Prop}{ty:TypeId}{ee:Int}{g:Nat}{c m x p s:Bool}{vc vm vx v1:Value}{w w':World}
theorem CX.below (L:InLaw I)(h:CX V cs I ty ee g c m x p s vc vm vx v1 w)(hb:Below w.heap.size w w'):CX V cs I ty ee g c m x p s vc vm vx v1 w':=fun hc=>by
 obtain⟨t,lo,hi,h1,h2,h3,h4,h5,h6,h7,h8⟩:=h hc
 exact⟨t,lo,hi,h1,h2,h3,h4,Nat.le_trans h5 hb.size,L.below h6 hb,h7,fun e=>(h8 e).elim fun b hb'=>⟨b,hb'.1,hb'.2.1,hb'.2.2.kept hb⟩⟩
theorem CX.lay (L:InLaw I)(h:CX V cs I ty ee g c m x p false vc vm vx v1 w)(o:Obj):CX V cs I ty ee g c m x true false vc vm vx (.pointer (some ⟨w.heap.size,0,none⟩)) (w.alloc o):=fun hc=>by
 have hb:=bNw (Below.refl w.heap.size w) o
 obtain⟨t,lo,hi,h1,h2,h3,h4,h5,h6,h7,h8⟩:=h hc
 exact⟨t,lo,hi,h1,h2,h3,h4,Nat.le_trans h5 hb.size,L.below h6 hb,fun _ b e=>by simp at e;omega,fun e=>by cases e⟩
theorem CX.moved (h:CX V cs I ty ee g true m x p s vc vm vx v1 w):CX V cs I ty ee g true true x p s vc vc vx v1 w:=fun hc=>by
 obtain⟨t,lo,hi,h1,h2,h3,h4,h5,h6,h7,h8⟩:=h hc
 exact⟨t,lo,hi,h1,fun _=>h1,h3,h4,h5,h6,h7,h8⟩
end
end
def md1D (i:Nat):Option Nat:=match i with|0=>some 9|1=>some 10|2=>some 11|3=>some 12|4=>some 13|5=>some 14|6=>some 8|7=>some 15|8=>some 16|9=>some 6|11=>some 7|_=>none
theorem md1D_inj:∀ i,i<12→∀ j,j<12→md1D i=md1D j→md1D i≠none→i=j:=by decide
def md1F (cfD cfH cfL cfV cfU cfX cfT cfN sz sd9:Int)(nn cb:Nat)(zs:List Int)(ee:Int)(g9:Nat)(z9:Array Value)(k:Nat→Bool)(j:Nat)(q:Value)(w:World):Prop:=match j with
 | 0=>q=.agg #[.int .i64 cfD,.int .i64 cfH,.int .i64 cfL,.int .i64 cfV,.int .i64 cfU,.int .i64 cfX,.int .i64 cfT,.int .i64 cfN]
 | 1=>q=.agg #[.int .i64 cfD,.int .i64 cfH,.int .i64 cfL,.int .i64 cfV,.int .i64 cfU,.int .i64 cfX,.int .i64 cfT,.int .i64 cfN]
 | 2=>q=.int .i64 sz
 | 3=>q=.int .u64 sd9
 | 4=>k 10=false→(∃ ya yc,q=.slice ya nn yc∧IsS w ⟨ya,nn,yc⟩ zs)
 | 5=>True
 | 6=>True
 | 7=>True
 | 8=>q=.int .i64 ee
 | 9=>∃ b,q=.pointer (some ⟨b,0,none⟩)∧g9≤b∧b<w.heap.size∧(k 10=false→Blk 34 w b z9)
 | 10=>True
 | 11=>q=.int .i64 ee
 | _=>True
theorem md1_region {id:Nat}{ops:Array Oper}{Q:Exit→Act→World→Prop}{a0:Act}{w0:World}{T:Type}{V:T→Value}{cs:T→Array Value}{I:T→Nat→Nat→World→Prop}(hI9:InLaw I)(cfD cfH cfL cfV cfU cfX cfT cfN sz sd9:Int)(nn cb:Nat)(zs:List Int)(ee:Int)(z9:Array Value)(hlow:lowB ops=true)(hsz:ops.size=12)
  (o0:OpIn ops 0 (some 9) (.load 23 (.tmp 2)) none []) (o1:OpIn ops 1 (some 10) (.load 23 (.tmp 2)) none []) (o2:OpIn ops 2 (some 11) (.call { callee:=.value (.func 37),args:=#[.tmp 10],argTypes:=#[23] }) none [1]) (o3:OpIn ops 3 (some 12) (.move (.tmp 1)) none []) (o4:OpIn ops 4 (some 13) (.call { callee:=.value (.func 36),args:=#[.tmp 11,.tmp 12],argTypes:=#[3,24] }) none [2,3]) (o5:OpIn ops 5 (some 14) (.call { callee:=.value (.func 33),args:=#[.tmp 9,.tmp 13],argTypes:=#[23,31] }) none [0,4]) (o6:OpIn ops 6 (some 8) (.move (.tmp 14)) none [5]) (o7:OpIn ops 7 (some 15) (.extract (.tmp 8) 0) none [6]) (o8:OpIn ops 8 (some 16) (.extract (.tmp 8) 1) none [6]) (o9:OpIn ops 9 (some 6) (.alloc 34) none []) (o10:OpIn ops 10 none (.store 34 (.tmp 6) (.tmp 15)) none [7,9]) (o11:OpIn ops 11 (some 7) (.assign (.tmp 16)) none [8])
  (x0:∀ w,Below w0.heap.size w0 w→(Instr.loadAt 23 (.pointer (some ⟨cb,0,none⟩))).run Tryz.prog w=.ok (.agg #[.int .i64 cfD,.int .i64 cfH,.int .i64 cfL,.int .i64 cfV,.int .i64 cfU,.int .i64 cfX,.int .i64 cfT,.int .i64 cfN]) w)
  (x1:∀ w,Below w0.heap.size w0 w→(Instr.loadAt 23 (.pointer (some ⟨cb,0,none⟩))).run Tryz.prog w=.ok (.agg #[.int .i64 cfD,.int .i64 cfH,.int .i64 cfL,.int .i64 cfV,.int .i64 cfU,.int .i64 cfX,.int .i64 cfT,.int .i64 cfN]) w)
  (x2:∀ w,Below w0.heap.size w0 w→Calls Tryz.prog 37 #[.agg #[.int .i64 cfD,.int .i64 cfH,.int .i64 cfL,.int .i64 cfV,.int .i64 cfU,.int .i64 cfX,.int .i64 cfT,.int .i64 cfN]] w fun e w'=>e=.returned (.int .i64 sz)∧Below w.heap.size w w')
  (x4:∀ w,Below w0.heap.size w0 w→Calls Tryz.prog 36 #[.int .i64 sz,.int .u64 sd9] w fun e w'=>(∃ a c,e=.returned (.slice a nn c)∧IsS w' ⟨a,nn,c⟩ zs)∧Below w.heap.size w w')
  (x5:∀ w ya yc,Below w0.heap.size w0 w→IsS w ⟨ya,nn,yc⟩ zs→Calls Tryz.prog 33 #[.agg #[.int .i64 cfD,.int .i64 cfH,.int .i64 cfL,.int .i64 cfV,.int .i64 cfU,.int .i64 cfX,.int .i64 cfT,.int .i64 cfN],.slice ya nn yc] w fun e w'=>∃ t,e=.returned (.tuple #[V t,.int .i64 ee])∧I t w.heap.size w'.heap.size w'∧Below w.heap.size w w')
  (u1:a0.tmps.getD 1 undef=.int .u64 sd9)
  (u2:a0.tmps.getD 2 undef=.pointer (some ⟨cb,0,none⟩))
  (xA:∀ w,(Instr.alloc 34 true (.tuple #[])).run Tryz.prog w=.ok (.pointer (some ⟨w.heap.size,0,none⟩)) (w.alloc (.cells z9 34)))
  (xS:∀ w b t,Blk 34 w b z9→∃ w',(Instr.storeAt 34 (.pointer (some ⟨b,0,none⟩)) (V t)).run Tryz.prog w=.ok () w'∧Blk 34 w' b (cs t)∧Only b w w'∧w'.heap.size=w.heap.size)
  (hs:20≤a0.tmps.size)
  (fin:∀ a w b t lo hi,a.tmps.size=a0.tmps.size→a.defers=a0.defers→(∀ s,(∀ i,i<12→md1D i≠some s)→a.tmps.getD s undef=a0.tmps.getD s undef)→a.tmps.getD 6 undef=.pointer (some ⟨b,0,none⟩)→a.tmps.getD 7 undef=.int .i64 ee→Below w0.heap.size w0 w→w0.heap.size≤b→w0.heap.size≤lo→hi≤w.heap.size→I t lo hi w→Blk 34 w b (cs t)→Q .normal a w):(Code.region id ops true).wp Tryz.prog Q a0 w0:=by
 have r39:∀ args w,(callFunc 33 args).run Tryz.prog w=.ok (.enter 33 args) w:=eNo Tryz.func33 (by kernel_rfl) rfl
 have r40:∀ args w,(callFunc 36 args).run Tryz.prog w=.ok (.enter 36 args) w:=eNo Tryz.func36 (by kernel_rfl) rfl
 have r41:∀ args w,(callFunc 37 args).run Tryz.prog w=.ok (.enter 37 args) w:=eNo Tryz.func37 (by kernel_rfl) rfl
 refine wRi (by kernel_rfl) hlow (Inv 12 md1D a0 (fun l a w=>Below w0.heap.size w0 w∧Kept2 12 md1D a0 l a∧CX V cs I 34 ee w0.heap.size (l 5) (l 6) (l 7) (l 9) (l 10) (a.tmps.getD 14 undef) (a.tmps.getD 8 undef) (a.tmps.getD 15 undef) (a.tmps.getD 6 undef) w) (md1F cfD cfH cfL cfV cfU cfX cfT cfN sz sd9 nn cb zs ee w0.heap.size z9)) (Inv.start ⟨(Below.refl _ _).drew,kept2_start _ _ _,(fun e=>by cases e)⟩) ?_ ?_
 ·intro l i o a w ho hl hcl hdep hI
  have hi:i<12:=by rw[←hsz];exact (Array.getElem?_eq_some_iff.1 ho).1
  have ev:∀ (s:Nat),a.eval (.tmp s)=a.tmps.getD s undef:=fun _=>rfl
  have evf:∀ f,a.eval (.func f)=.func (.func f) #[] #[]:=fun _=>rfl
  have evc:∀ c:Value,a.eval (.const c)=c:=fun _=>rfl
  have inj:∀ d,md1D i=some d→∀ j d',j<12→md1D j=some d'→j≠i→d'≠d:=fun d hd j d' hj hd' hne e=>hne (md1D_inj j hj i hi (by rw[hd',hd,e]) (by rw[hd'];simp))
  have kp:∀ s,(∀ i,i<12→md1D i≠some s)→a.tmps.getD s undef=a0.tmps.getD s undef:=hI.kept
  obtain⟨hw,k2,hc⟩:Below w0.heap.size w0 w∧Kept2 12 md1D a0 l a∧CX V cs I 34 ee w0.heap.size (l 5) (l 6) (l 7) (l 9) (l 10) (a.tmps.getD 14 undef) (a.tmps.getD 8 undef) (a.tmps.getD 15 undef) (a.tmps.getD 6 undef) w:=hI.world
  have oth:∀ j,j≠i→(l j || j==i)=l j:=fun j hj=>by rw[show (j==i)=false by simp[hj],Bool.or_false]
  have sam:(l i || i==i)=true:=by simp
  have gp:∀ (d:Nat) (v:Value) (s:Nat),d<20→(a.put (some d) v).tmps.getD s undef=if s=d then v else a.tmps.getD s undef:=fun d v s hd=>get_put a d v s (by rw[hI.size];exact Nat.lt_of_lt_of_le hd hs)
  have keep:∀ {w':World},i≠10→Below w.heap.size w w'→∀ j u,j<12→l j=true→j≠i→md1F cfD cfH cfL cfV cfU cfX cfT cfN sz sd9 nn cb zs ee w0.heap.size z9 l j u w→md1F cfD cfH cfL cfV cfU cfX cfT cfN sz sd9 nn cb zs ee w0.heap.size z9 (fun j=>l j || j==i) j u w':=by
   intro w' n6 hb j u hj _ _ hf
   unfold md1F at hf ⊢
   dsimp only
   rw[oth 10 (fun e=>n6 e.symm)]
   rcases (show j=0∨j=1∨j=2∨j=3∨j=4∨j=5∨j=6∨j=7∨j=8∨j=9∨j=10∨j=11 by omega) with rfl|rfl|rfl|rfl|rfl|rfl|rfl|rfl|rfl|rfl|rfl|rfl
   ·exact hf
   ·exact hf
   ·exact hf
   ·exact hf
   ·intro e9;have h:=hf e9;obtain⟨ya,yc,h1,h2⟩:=h;exact⟨ya,yc,h1,h2.below hb⟩
   ·exact hf
   ·exact hf
   ·exact hf
   ·exact hf
   ·obtain⟨b,q1,q2,q3,q4⟩:=hf;exact⟨b,q1,q2,Nat.lt_of_lt_of_le q3 hb.size,fun e=>(q4 e).kept hb⟩
   ·exact hf
   ·exact hf
  rcases (show i=0∨i=1∨i=2∨i=3∨i=4∨i=5∨i=6∨i=7∨i=8∨i=9∨i=10∨i=11 by omega) with rfl|rfl|rfl|rfl|rfl|rfl|rfl|rfl|rfl|rfl|rfl|rfl
  ·obtain⟨o',e1,e2,e3,e4,e5⟩:=o0
   obtain rfl:=sOp ho e1
   have dp:=dPo e5 hdep
   have n9:l 10=false:=by
    cases e0:l 10 with
    | false=>rfl
    | true =>
     have e0':=hcl.dep' o10 e0 7 (by decide)
     have e1':=hcl.dep' o7 e0' 6 (by decide)
     have e2':=hcl.dep' o6 e1' 5 (by decide)
     have e3':=hcl.dep' o5 e2' 0 (by decide)
     rw[hl] at e3'
     cases e3'
   have U2:a.tmps.getD 2 undef=.pointer (some ⟨cb,0,none⟩):=(kp 2 (by decide)).trans u2
   refine wVa (v:=.agg #[.int .i64 cfD,.int .i64 cfH,.int .i64 cfL,.int .i64 cfV,.int .i64 cfU,.int .i64 cfX,.int .i64 cfT,.int .i64 cfN]) (w':=w) ho e4 (by simp[execOp,e3,ev,evc,U2,x0 w hw]) ?_
   rw[e2]
   refine hI.put (by decide) (d:=9) rfl (Nat.lt_of_lt_of_le (by decide) hs) (inj 9 rfl) ?_ (rfl) (keep (by decide) (Below.refl _ _))
   refine⟨hw,k2.put rfl (by rw[hI.size];exact Nat.lt_of_lt_of_le (by decide) hs) (by decide),?_⟩
   dsimp only
   rw[gp 9 _ 14 (by decide),gp 9 _ 8 (by decide),gp 9 _ 15 (by decide),gp 9 _ 6 (by decide)]
   simp only[oth 5 (by decide),oth 6 (by decide),oth 7 (by decide),oth 9 (by decide),oth 10 (by decide)]
   exact hc
  ·obtain⟨o',e1,e2,e3,e4,e5⟩:=o1
   obtain rfl:=sOp ho e1
   have dp:=dPo e5 hdep
   have n9:l 10=false:=by
    cases e0:l 10 with
    | false=>rfl
    | true =>
     have e0':=hcl.dep' o10 e0 7 (by decide)
     have e1':=hcl.dep' o7 e0' 6 (by decide)
     have e2':=hcl.dep' o6 e1' 5 (by decide)
     have e3':=hcl.dep' o5 e2' 4 (by decide)
     have e4':=hcl.dep' o4 e3' 2 (by decide)
     have e5':=hcl.dep' o2 e4' 1 (by decide)
     rw[hl] at e5'
     cases e5'
   have U2:a.tmps.getD 2 undef=.pointer (some ⟨cb,0,none⟩):=(kp 2 (by decide)).trans u2
   refine wVa (v:=.agg #[.int .i64 cfD,.int .i64 cfH,.int .i64 cfL,.int .i64 cfV,.int .i64 cfU,.int .i64 cfX,.int .i64 cfT,.int .i64 cfN]) (w':=w) ho e4 (by simp[execOp,e3,ev,evc,U2,x1 w hw]) ?_
   rw[e2]
   refine hI.put (by decide) (d:=10) rfl (Nat.lt_of_lt_of_le (by decide) hs) (inj 10 rfl) ?_ (rfl) (keep (by decide) (Below.refl _ _))
   refine⟨hw,k2.put rfl (by rw[hI.size];exact Nat.lt_of_lt_of_le (by decide) hs) (by decide),?_⟩
   dsimp only
   rw[gp 10 _ 14 (by decide),gp 10 _ 8 (by decide),gp 10 _ 15 (by decide),gp 10 _ 6 (by decide)]
   simp only[oth 5 (by decide),oth 6 (by decide),oth 7 (by decide),oth 9 (by decide),oth 10 (by decide)]
   exact hc
  ·obtain⟨o',e1,e2,e3,e4,e5⟩:=o2
   obtain rfl:=sOp ho e1
   have dp:=dPo e5 hdep
   have n9:l 10=false:=by
    cases e0:l 10 with
    | false=>rfl
    | true =>
     have e0':=hcl.dep' o10 e0 7 (by decide)
     have e1':=hcl.dep' o7 e0' 6 (by decide)
     have e2':=hcl.dep' o6 e1' 5 (by decide)
     have e3':=hcl.dep' o5 e2' 4 (by decide)
     have e4':=hcl.dep' o4 e3' 2 (by decide)
     rw[hl] at e4'
     cases e4'
   have V1:a.tmps.getD 10 undef=.agg #[.int .i64 cfD,.int .i64 cfH,.int .i64 cfL,.int .i64 cfV,.int .i64 cfU,.int .i64 cfX,.int .i64 cfT,.int .i64 cfN]:=hI.val 1 10 (by decide) rfl (dp 1 (by decide))
   refine wCa (f:=37) (args:=#[.agg #[.int .i64 cfD,.int .i64 cfH,.int .i64 cfL,.int .i64 cfV,.int .i64 cfU,.int .i64 cfX,.int .i64 cfT,.int .i64 cfN]]) ho e4 (by simp[execOp,e3,resolve,invoke,Deferred.ofValue,r41,ev,evf,evc,V1]) ((x2 w hw).mono ?_)
   rintro e W ⟨rfl,hb6⟩
   refine⟨_,rfl,?_⟩
   rw[e2]
   refine hI.put (by decide) (d:=11) rfl (Nat.lt_of_lt_of_le (by decide) hs) (inj 11 rfl) ?_ (rfl) (keep (by decide) (hb6))
   refine⟨bTn hw (hb6),k2.put rfl (by rw[hI.size];exact Nat.lt_of_lt_of_le (by decide) hs) (by decide),?_⟩
   dsimp only
   rw[gp 11 _ 14 (by decide),gp 11 _ 8 (by decide),gp 11 _ 15 (by decide),gp 11 _ 6 (by decide)]
   simp only[oth 5 (by decide),oth 6 (by decide),oth 7 (by decide),oth 9 (by decide),oth 10 (by decide)]
   exact hc.below hI9 hb6
  ·obtain⟨o',e1,e2,e3,e4,e5⟩:=o3
   obtain rfl:=sOp ho e1
   have dp:=dPo e5 hdep
   have n9:l 10=false:=by
    cases e0:l 10 with
    | false=>rfl
    | true =>
     have e0':=hcl.dep' o10 e0 7 (by decide)
     have e1':=hcl.dep' o7 e0' 6 (by decide)
     have e2':=hcl.dep' o6 e1' 5 (by decide)
     have e3':=hcl.dep' o5 e2' 4 (by decide)
     have e4':=hcl.dep' o4 e3' 3 (by decide)
     rw[hl] at e4'
     cases e4'
   have U1:a.tmps.getD 1 undef=.int .u64 sd9:=(kp 1 (by decide)).trans u1
   refine wVa (v:=.int .u64 sd9) (w':=w) ho e4 (by simp[execOp,e3,ev,evc,U1]) ?_
   rw[e2]
   refine hI.put (by decide) (d:=12) rfl (Nat.lt_of_lt_of_le (by decide) hs) (inj 12 rfl) ?_ (rfl) (keep (by decide) (Below.refl _ _))
   refine⟨hw,k2.put rfl (by rw[hI.size];exact Nat.lt_of_lt_of_le (by decide) hs) (by decide),?_⟩
   dsimp only
   rw[gp 12 _ 14 (by decide),gp 12 _ 8 (by decide),gp 12 _ 15 (by decide),gp 12 _ 6 (by decide)]
   simp only[oth 5 (by decide),oth 6 (by decide),oth 7 (by decide),oth 9 (by decide),oth 10 (by decide)]
   exact hc
  ·obtain⟨o',e1,e2,e3,e4,e5⟩:=o4
   obtain rfl:=sOp ho e1
   have dp:=dPo e5 hdep
   have n9:l 10=false:=by
    cases e0:l 10 with
    | false=>rfl
    | true =>
     have e0':=hcl.dep' o10 e0 7 (by decide)
     have e1':=hcl.dep' o7 e0' 6 (by decide)
     have e2':=hcl.dep' o6 e1' 5 (by decide)
     have e3':=hcl.dep' o5 e2' 4 (by decide)
     rw[hl] at e3'
     cases e3'
   have V2:a.tmps.getD 11 undef=.int .i64 sz:=hI.val 2 11 (by decide) rfl (dp 2 (by decide))
   have V3:a.tmps.getD 12 undef=.int .u64 sd9:=hI.val 3 12 (by decide) rfl (dp 3 (by decide))
   refine wCa (f:=36) (args:=#[.int .i64 sz,.int .u64 sd9]) ho e4 (by simp[execOp,e3,resolve,invoke,Deferred.ofValue,r40,ev,evf,evc,V2,V3]) ((x4 w hw).mono ?_)
   rintro e W ⟨⟨a6,c6,rfl,f6⟩,hb6⟩
   refine⟨_,rfl,?_⟩
   rw[e2]
   refine hI.put (by decide) (d:=13) rfl (Nat.lt_of_lt_of_le (by decide) hs) (inj 13 rfl) ?_ (fun _=>⟨a6,c6,rfl,f6⟩) (keep (by decide) (hb6))
   refine⟨bTn hw (hb6),k2.put rfl (by rw[hI.size];exact Nat.lt_of_lt_of_le (by decide) hs) (by decide),?_⟩
   dsimp only
   rw[gp 13 _ 14 (by decide),gp 13 _ 8 (by decide),gp 13 _ 15 (by decide),gp 13 _ 6 (by decide)]
   simp only[oth 5 (by decide),oth 6 (by decide),oth 7 (by decide),oth 9 (by decide),oth 10 (by decide)]
   exact hc.below hI9 hb6
  ·obtain⟨o',e1,e2,e3,e4,e5⟩:=o5
   obtain rfl:=sOp ho e1
   have dp:=dPo e5 hdep
   have n9:l 10=false:=by
    cases e0:l 10 with
    | false=>rfl
    | true =>
     have e0':=hcl.dep' o10 e0 7 (by decide)
     have e1':=hcl.dep' o7 e0' 6 (by decide)
     have e2':=hcl.dep' o6 e1' 5 (by decide)
     rw[hl] at e2'
     cases e2'
   have V0:a.tmps.getD 9 undef=.agg #[.int .i64 cfD,.int .i64 cfH,.int .i64 cfL,.int .i64 cfV,.int .i64 cfU,.int .i64 cfX,.int .i64 cfT,.int .i64 cfN]:=hI.val 0 9 (by decide) rfl (dp 0 (by decide))
   obtain⟨a4,c4,V4,f4⟩:∃ ya yc,a.tmps.getD 13 undef=.slice ya nn yc∧IsS w ⟨ya,nn,yc⟩ zs:=hI.val 4 13 (by decide) rfl (dp 4 (by decide)) n9
   refine wCa (f:=33) (args:=#[.agg #[.int .i64 cfD,.int .i64 cfH,.int .i64 cfL,.int .i64 cfV,.int .i64 cfU,.int .i64 cfX,.int .i64 cfT,.int .i64 cfN],.slice a4 nn c4]) ho e4 (by simp[execOp,e3,resolve,invoke,Deferred.ofValue,r39,ev,evf,evc,V0,V4]) ((x5 w a4 c4 hw f4).mono ?_)
   rintro e W ⟨t,rfl,ht,hb⟩
   refine⟨_,rfl,?_⟩
   rw[e2]
   refine hI.put (by decide) (d:=14) rfl (Nat.lt_of_lt_of_le (by decide) hs) (inj 14 rfl) ?_ (trivial) (keep (by decide) (hb))
   refine⟨bTn hw (hb),k2.put rfl (by rw[hI.size];exact Nat.lt_of_lt_of_le (by decide) hs) (by decide),?_⟩
   dsimp only
   rw[gp 14 _ 14 (by decide),gp 14 _ 8 (by decide),gp 14 _ 15 (by decide),gp 14 _ 6 (by decide)]
   simp only[oth 6 (by decide),oth 7 (by decide),oth 9 (by decide),oth 10 (by decide),sam]
   exact fun _=>⟨t,w.heap.size,W.heap.size,rfl,(fun e9=>by
     have y:=hcl.dep' o6 e9 5 (by decide)
     rw[hl] at y
     cases y),(fun e9=>by
     have y:=hcl.dep' o6 (hcl.dep' o7 e9 6 (by decide)) 5 (by decide)
     rw[hl] at y
     cases y),hw.size,Nat.le_refl _,ht,(fun e9 b eb=>by
     obtain⟨b2,p1,p2,p3,p4⟩:∃ b,a.tmps.getD 6 undef=.pointer (some ⟨b,0,none⟩)∧w0.heap.size≤b∧b<w.heap.size∧(l 10=false→Blk 34 w b z9):=hI.val 9 6 (by decide) rfl e9
     have:=p1.symm.trans eb
     simp at this
     omega),(fun e9=>by rw[n9] at e9;cases e9)⟩
  ·obtain⟨o',e1,e2,e3,e4,e5⟩:=o6
   obtain rfl:=sOp ho e1
   have dp:=dPo e5 hdep
   have n9:l 10=false:=by
    cases e0:l 10 with
    | false=>rfl
    | true =>
     have e0':=hcl.dep' o10 e0 7 (by decide)
     have e1':=hcl.dep' o7 e0' 6 (by decide)
     rw[hl] at e1'
     cases e1'
   obtain⟨t,lo,hh,Vc,h2,h3,h4,h5,h6,h7,h8⟩:=hc (dp 5 (by decide))
   refine wVa (v:=.tuple #[V t,.int .i64 ee]) (w':=w) ho e4 (by simp[execOp,e3,ev,evc,Vc]) ?_
   rw[e2]
   refine hI.put (by decide) (d:=8) rfl (Nat.lt_of_lt_of_le (by decide) hs) (inj 8 rfl) ?_ (trivial) (keep (by decide) (Below.refl _ _))
   refine⟨hw,k2.put rfl (by rw[hI.size];exact Nat.lt_of_lt_of_le (by decide) hs) (by decide),?_⟩
   dsimp only
   rw[gp 8 _ 14 (by decide),gp 8 _ 8 (by decide),gp 8 _ 15 (by decide),gp 8 _ 6 (by decide)]
   simp only[oth 5 (by decide),oth 7 (by decide),oth 9 (by decide),oth 10 (by decide),sam]
   rw[dp 5 (by decide)] at hc ⊢
   rw[←Vc]
   exact hc.moved
  ·obtain⟨o',e1,e2,e3,e4,e5⟩:=o7
   obtain rfl:=sOp ho e1
   have dp:=dPo e5 hdep
   have n9:l 10=false:=by
    cases e0:l 10 with
    | false=>rfl
    | true =>
     have e0':=hcl.dep' o10 e0 7 (by decide)
     rw[hl] at e0'
     cases e0'
   obtain⟨t,lo,hh,Vc,h2,h3,h4,h5,h6,h7,h8⟩:=hc (hcl.dep' o6 (dp 6 (by decide)) 5 (by decide))
   have Vm:=h2 (dp 6 (by decide))
   refine wVa (v:=V t) (w':=w) ho e4 (by simp[execOp,e3,ev,evc,Vm,Instr.extract]) ?_
   rw[e2]
   refine hI.put (by decide) (d:=15) rfl (Nat.lt_of_lt_of_le (by decide) hs) (inj 15 rfl) ?_ (trivial) (keep (by decide) (Below.refl _ _))
   refine⟨hw,k2.put rfl (by rw[hI.size];exact Nat.lt_of_lt_of_le (by decide) hs) (by decide),?_⟩
   dsimp only
   rw[gp 15 _ 14 (by decide),gp 15 _ 8 (by decide),gp 15 _ 15 (by decide),gp 15 _ 6 (by decide)]
   simp only[oth 5 (by decide),oth 6 (by decide),oth 9 (by decide),oth 10 (by decide),sam]
   exact fun _=>⟨t,lo,hh,Vc,h2,fun _=>rfl,h4,h5,h6,h7,h8⟩
  ·obtain⟨o',e1,e2,e3,e4,e5⟩:=o8
   obtain rfl:=sOp ho e1
   have dp:=dPo e5 hdep
   obtain⟨t,lo,hh,Vc,h2,h3,h4,h5,h6,h7,h8⟩:=hc (hcl.dep' o6 (dp 6 (by decide)) 5 (by decide))
   have Vm:=h2 (dp 6 (by decide))
   refine wVa (v:=.int .i64 ee) (w':=w) ho e4 (by simp[execOp,e3,ev,evc,Vm,Instr.extract]) ?_
   rw[e2]
   refine hI.put (by decide) (d:=16) rfl (Nat.lt_of_lt_of_le (by decide) hs) (inj 16 rfl) ?_ (rfl) (keep (by decide) (Below.refl _ _))
   refine⟨hw,k2.put rfl (by rw[hI.size];exact Nat.lt_of_lt_of_le (by decide) hs) (by decide),?_⟩
   dsimp only
   rw[gp 16 _ 14 (by decide),gp 16 _ 8 (by decide),gp 16 _ 15 (by decide),gp 16 _ 6 (by decide)]
   simp only[oth 5 (by decide),oth 6 (by decide),oth 7 (by decide),oth 9 (by decide),oth 10 (by decide)]
   exact hc
  ·obtain⟨o',e1,e2,e3,e4,e5⟩:=o9
   obtain rfl:=sOp ho e1
   have dp:=dPo e5 hdep
   have n9:l 10=false:=by
    cases e0:l 10 with
    | false=>rfl
    | true =>
     have e0':=hcl.dep' o10 e0 9 (by decide)
     rw[hl] at e0'
     cases e0'
   have hb:=bNw (Below.refl w.heap.size w) (.cells z9 34)
   refine wVa (v:=.pointer (some ⟨w.heap.size,0,none⟩)) (w':=w.alloc (.cells z9 34)) ho e4 (by simp[execOp,e3,xA]) ?_
   rw[e2]
   refine hI.put (by decide) (d:=6) rfl (Nat.lt_of_lt_of_le (by decide) hs) (inj 6 rfl) ?_ (⟨w.heap.size,rfl,hw.size,by simp,fun _=>Blk.new 34 w _⟩) (keep (by decide) (hb))
   refine⟨bTn hw (hb),k2.put rfl (by rw[hI.size];exact Nat.lt_of_lt_of_le (by decide) hs) (by decide),?_⟩
   dsimp only
   rw[gp 6 _ 14 (by decide),gp 6 _ 8 (by decide),gp 6 _ 15 (by decide),gp 6 _ 6 (by decide)]
   simp only[oth 5 (by decide),oth 6 (by decide),oth 7 (by decide),oth 10 (by decide),sam]
   rw[n9] at hc ⊢
   exact hc.lay hI9 _
  ·obtain⟨o',e1,e2,e3,e4,e5⟩:=o10
   obtain rfl:=sOp ho e1
   have dp:=dPo e5 hdep
   obtain⟨b,Va,gb,lb,q⟩:∃ b,a.tmps.getD 6 undef=.pointer (some ⟨b,0,none⟩)∧w0.heap.size≤b∧b<w.heap.size∧(l 10=false→Blk 34 w b z9):=hI.val 9 6 (by decide) rfl (dp 9 (by decide))
   replace q:=q hl
   obtain⟨t,lo,hh,Vc,h2,h3,h4,h5,h6,h7,h8⟩:=hc (hcl.dep' o6 (hcl.dep' o7 (dp 7 (by decide)) 6 (by decide)) 5 (by decide))
   have Vx:=h3 (dp 7 (by decide))
   obtain⟨w',r',q',on,hz⟩:=xS w b t q
   have hb9:Below w0.heap.size w0 w':=Only.below hw gb hw.size on
   refine wSk (w':=w') ho e4 (by simp[execOp,e3,ev,Va,Vx,r']) ?_
   rw[e2]
   refine Inv.none_' hI rfl ⟨hb9,fun s9 hs9=>k2 s9 (fun j hj hl9=>hs9 j hj (by simp[hl9])),?_⟩ (fun j dd hj hD hkj hne hf=>?_)
   ·dsimp only
    simp only[oth 5 (by decide),oth 6 (by decide),oth 7 (by decide),oth 9 (by decide),sam]
    exact fun _=>⟨t,lo,hh,Vc,h2,h3,h4,(by omega),hI9.only h6 on (h7 (dp 9 (by decide)) b Va),h7,fun _=>⟨b,Va,gb,q'⟩⟩
   ·unfold md1F at hf ⊢
    dsimp only
    rw[sam]
    rcases (show j=0∨j=1∨j=2∨j=3∨j=4∨j=5∨j=6∨j=7∨j=8∨j=9∨j=10∨j=11 by omega) with rfl|rfl|rfl|rfl|rfl|rfl|rfl|rfl|rfl|rfl|rfl|rfl
    ·exact hf
    ·exact hf
    ·exact hf
    ·exact hf
    ·intro e9;cases e9
    ·exact hf
    ·exact hf
    ·exact hf
    ·exact hf
    ·obtain⟨b2,p1,p2,p3,p4⟩:=hf;exact⟨b2,p1,p2,by omega,fun e=>by cases e⟩
    ·exact hf
    ·exact hf
  ·obtain⟨o',e1,e2,e3,e4,e5⟩:=o11
   obtain rfl:=sOp ho e1
   have dp:=dPo e5 hdep
   have V9:a.tmps.getD 16 undef=.int .i64 ee:=hI.val 8 16 (by decide) rfl (dp 8 (by decide))
   refine wVa (v:=.int .i64 ee) (w':=w) ho e4 (by simp[execOp,e3,ev,evc,V9]) ?_
   rw[e2]
   refine hI.put (by decide) (d:=7) rfl (Nat.lt_of_lt_of_le (by decide) hs) (inj 7 rfl) ?_ (rfl) (keep (by decide) (Below.refl _ _))
   refine⟨hw,k2.put rfl (by rw[hI.size];exact Nat.lt_of_lt_of_le (by decide) hs) (by decide),?_⟩
   dsimp only
   rw[gp 7 _ 14 (by decide),gp 7 _ 8 (by decide),gp 7 _ 15 (by decide),gp 7 _ 6 (by decide)]
   simp only[oth 5 (by decide),oth 6 (by decide),oth 7 (by decide),oth 9 (by decide),oth 10 (by decide)]
   exact hc
 ·intro l a w hall hI
  have all:∀ j,j<12→l j=true:=fun j hj=>hall j (by rw[hsz];exact hj)
  obtain⟨hw,k2,hc⟩:Below w0.heap.size w0 w∧Kept2 12 md1D a0 l a∧CX V cs I 34 ee w0.heap.size (l 5) (l 6) (l 7) (l 9) (l 10) (a.tmps.getD 14 undef) (a.tmps.getD 8 undef) (a.tmps.getD 15 undef) (a.tmps.getD 6 undef) w:=hI.world
  obtain⟨t,lo,hh,Vc,h2,h3,h4,h5,h6,h7,h8⟩:=hc (all 5 (by decide))
  obtain⟨b,y1,y2,y3⟩:=h8 (all 10 (by decide))
  exact fin a w b t lo hh hI.size hI.defers hI.kept y1 (hI.val 11 7 (by decide) rfl (all 11 (by decide))) hw y2 h4 h5 h6 y3
structure Rq where
 M:Md
 E:SL
 L:SL
 N:SL
 O:SL
 La:SL
 q:Aq
abbrev Rq.mc (r:Rq):Array Value:=#[.int .i64 r.M.d,.int .i64 r.M.h,.int .i64 r.M.l,.int .i64 r.M.v,.int .i64 r.M.u,.int .i64 r.M.x,.int .i64 r.M.t,.int .i64 r.M.n,.slice r.E.a r.E.n r.E.c,.slice r.L.a r.L.n r.L.c,.slice r.N.a r.N.n r.N.c,.slice r.O.a r.O.n r.O.c]
abbrev Rq.ac (r:Rq):Array Value:=#[.int .i64 r.M.r,.int .i64 r.M.s,.slice r.La.a r.La.n r.La.c]
abbrev Rq.cs (r:Rq):Array Value:=#[.int .i64 r.M.d,.int .i64 r.M.h,.int .i64 r.M.l,.int .i64 r.M.v,.int .i64 r.M.u,.int .i64 r.M.x,.int .i64 r.M.t,.int .i64 r.M.n,.slice r.E.a r.E.n r.E.c,.slice r.L.a r.L.n r.L.c,.slice r.N.a r.N.n r.N.c,.slice r.O.a r.O.n r.O.c,.int .i64 r.M.r,.int .i64 r.M.s,.slice r.La.a r.La.n r.La.c,.int .i64 r.q.k,.slice r.q.a r.q.n r.q.c,.int .i64 r.q.L,.int .i64 r.q.S,.int .u64 r.q.sd,.int .i64 r.q.T,.float .f64 r.q.H,.int .i64 r.q.B,.int .i64 r.q.E]
abbrev Rq.mw (r:Rq):Value:=.agg r.mc
abbrev Rq.aw (r:Rq):Value:=.agg r.ac
abbrev Rq.w (r:Rq):Value:=.agg r.cs
structure RqAt (w:World) (r:Rq) (Y U D Ya:Nat→Nat→SL) (ps:List Int):Prop where
 m:ModAt w r.E r.L r.N r.O Y U D r.M.m
 a:AdAt w r.La Ya r.M.a
 q:AkAt w r.q ps
theorem RqAt.below {w w':World}{r:Rq}{Y U D Ya:Nat→Nat→SL}{ps:List Int}(h:RqAt w r Y U D Ya ps)(hb:Below w.heap.size w w'):RqAt w' r Y U D Ya ps:=⟨h.m.below hb,h.a.below hb,⟨h.q.ws,h.q.wL,h.q.t.below hb,h.q.te,h.q.tl⟩⟩
theorem Blk.rq {w:World}{b:Nat}{r:Rq}(h:Blk 55 w b r.cs):w.cell? ⟨b,0,none⟩=some (.int .i64 r.M.d)∧w.cell? ⟨b,1,none⟩=some (.int .i64 r.M.h)∧w.cell? ⟨b,2,none⟩=some (.int .i64 r.M.l)∧w.cell? ⟨b,3,none⟩=some (.int .i64 r.M.v)∧w.cell? ⟨b,4,none⟩=some (.int .i64 r.M.u)∧w.cell? ⟨b,5,none⟩=some (.int .i64 r.M.x)∧w.cell? ⟨b,6,none⟩=some (.int .i64 r.M.t)∧w.cell? ⟨b,7,none⟩=some (.int .i64 r.M.n)∧w.cell? ⟨b,8,none⟩=some (.slice r.E.a r.E.n r.E.c)∧w.cell? ⟨b,9,none⟩=some (.slice r.L.a r.L.n r.L.c)∧w.cell? ⟨b,10,none⟩=some (.slice r.N.a r.N.n r.N.c)∧w.cell? ⟨b,11,none⟩=some (.slice r.O.a r.O.n r.O.c)∧w.cell? ⟨b,12,none⟩=some (.int .i64 r.M.r)∧w.cell? ⟨b,13,none⟩=some (.int .i64 r.M.s)∧w.cell? ⟨b,14,none⟩=some (.slice r.La.a r.La.n r.La.c)∧w.cell? ⟨b,15,none⟩=some (.int .i64 r.q.k)∧w.cell? ⟨b,16,none⟩=some (.slice r.q.a r.q.n r.q.c)∧w.cell? ⟨b,17,none⟩=some (.int .i64 r.q.L)∧w.cell? ⟨b,18,none⟩=some (.int .i64 r.q.S)∧w.cell? ⟨b,19,none⟩=some (.int .u64 r.q.sd)∧w.cell? ⟨b,20,none⟩=some (.int .i64 r.q.T)∧w.cell? ⟨b,21,none⟩=some (.float .f64 r.q.H)∧w.cell? ⟨b,22,none⟩=some (.int .i64 r.q.B)∧w.cell? ⟨b,23,none⟩=some (.int .i64 r.q.E) :=
 ⟨h.cell 0 rfl,h.cell 1 rfl,h.cell 2 rfl,h.cell 3 rfl,h.cell 4 rfl,h.cell 5 rfl,h.cell 6 rfl,h.cell 7 rfl,h.cell 8 rfl,h.cell 9 rfl,h.cell 10 rfl,h.cell 11 rfl,h.cell 12 rfl,h.cell 13 rfl,h.cell 14 rfl,h.cell 15 rfl,h.cell 16 rfl,h.cell 17 rfl,h.cell 18 rfl,h.cell 19 rfl,h.cell 20 rfl,h.cell 21 rfl,h.cell 22 rfl,h.cell 23 rfl⟩
def lastL (M:Md)(l:List Int):List Int:=outF M (tokF l) (l.length-1)
def scoreL (M:Md)(l:List Int):List Int:=matL M.m.o (lastL M l)
end Go.Proofs.YtbkjhfmehemgpaaGreat
