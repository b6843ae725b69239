/- Texts put together. -/
import Derived.Test.YthliomlmhfjhnaaGreatRows
import Derived.Test.YthliomlmhfjhnaaGreatZf24
namespace Go.Proofs.YthliomlmhfjhnaaGreat
set_option maxRecDepth 20000
set_option maxHeartbeats 16000000
open Go.ChangeShapes Go.WideShapes Go.ChangeAt Go.RowKit
set_option linter.unusedVariables false
set_option linter.unusedSimpArgs false
section
def Kept2 (N:Nat)(D:Nat→Option Nat)(a0:Act)(l:Nat→Bool)(a:Act):Prop:=∀ s,(∀ i,i<N→l i=true→D i≠some s)→a.tmps.getD s undef=a0.tmps.getD s undef
theorem kept2_start (N:Nat)(D:Nat→Option Nat)(a0:Act):Kept2 N D a0 (fun _=>false) a0:=fun _ _=>rfl
theorem Kept2.put {N:Nat}{D:Nat→Option Nat}{a0:Act}{l:Nat→Bool}{a:Act}(h:Kept2 N D a0 l a){i d:Nat}{v:Value}(hD:D i=some d)(hd:d<a.tmps.size)(hi:i<N:=by decide):Kept2 N D a0 (fun j=>l j || j==i) (a.put (some d) v):=fun s hs=>by
 rw[get_put a d v s hd,if_neg (fun e=>hs i hi (by simp) (by rw[e];exact hD))]
 exact h s (fun j hj hl=>hs j hj (by simp[hl]))
theorem run_field23 (b f:Nat)(hf:f<8)(w:World):(Instr.fieldAt 23 (.pointer (some ⟨b,0,none⟩)) f).run Tryz.prog w=.ok (.pointer (some ⟨b,f,none⟩)) w:=by
 rcases (show f=0∨f=1∨f=2∨f=3∨f=4∨f=5∨f=6∨f=7 by omega) with rfl|rfl|rfl|rfl|rfl|rfl|rfl|rfl<;>go_simp
def lhD (i:Nat):Option Nat:=match i with|0=>some 101|1=>some 102|2=>some 103|3=>some 104|4=>some 105|5=>some 106|6=>some 107|7=>some 108|8=>some 109|9=>some 110|10=>some 111|11=>some 112|12=>some 113|13=>some 114|14=>some 115|15=>some 116|16=>some 117|17=>some 10|18=>some 11|19=>some 12|_=>none
theorem lhD_inj:∀ i,i<20→∀ j,j<20→lhD i=lhD j→lhD i≠none→i=j:=by decide
theorem lhD_lt:∀ i,i<20→∀ d,lhD i=some d→d<118:=by
 intro i hi d h
 have:∀ i,i<20→(lhD i).all (fun d=>decide (d<118))=true:=by decide
 have:=this i hi
 rw[h] at this
 simpa using this
def lhF (cb D0 qc kc vc:Nat)(qa ka va:Option Addr)(hh p:Int)(OQ OK:List Int)(i:Nat)(q:Value)(w:World):Prop:=match i with
 | 0=>q=.slice qa D0 qc
 | 1=>q=.pointer (some ⟨cb,1,none⟩)
 | 2=>q=.int .i64 hh
 | 3=>q=.int .i64 p
 | 4=>∃ b bc,q=.tuple #[.slice b D0 bc,.int .i64 0]∧Reads .i64 w b D0 OQ∧D0≤bc
 | 5=>∃ b bc,q=.slice b D0 bc∧Reads .i64 w b D0 OQ∧D0≤bc
 | 6=>q=.int .i64 0
 | 7=>∃ b bc,q=.slice b D0 bc∧Reads .i64 w b D0 OQ∧D0≤bc
 | 8=>q=.slice ka D0 kc
 | 9=>q=.pointer (some ⟨cb,1,none⟩)
 | 10=>q=.int .i64 hh
 | 11=>q=.int .i64 p
 | 12=>∃ b bc,q=.tuple #[.slice b D0 bc,.int .i64 0]∧Reads .i64 w b D0 OK∧D0≤bc
 | 13=>∃ b bc,q=.slice b D0 bc∧Reads .i64 w b D0 OK∧D0≤bc
 | 14=>q=.int .i64 0
 | 15=>∃ b bc,q=.slice b D0 bc∧Reads .i64 w b D0 OK∧D0≤bc
 | 16=>q=.slice va D0 vc
 | 17=>∃ b bc,q=.slice b D0 bc∧Reads .i64 w b D0 OQ∧D0≤bc
 | 18=>∃ b bc,q=.slice b D0 bc∧Reads .i64 w b D0 OK∧D0≤bc
 | 19=>q=.slice va D0 vc
 | _=>True
theorem lhF_below {cb D0 qc kc vc:Nat}{qa ka va:Option Addr}{hh p:Int}{OQ OK:List Int}{i:Nat}{q:Value}{w w':World}(h:lhF cb D0 qc kc vc qa ka va hh p OQ OK i q w)(hb:Below w.heap.size w w'):lhF cb D0 qc kc vc qa ka va hh p OQ OK i q w':=by
 unfold lhF at h ⊢
 split
 ·exact h
 ·exact h
 ·exact h
 ·exact h
 ·obtain⟨b,bc,h1,h2,h3⟩:=h;exact⟨b,bc,h1,h2.below hb,h3⟩
 ·obtain⟨b,bc,h1,h2,h3⟩:=h;exact⟨b,bc,h1,h2.below hb,h3⟩
 ·exact h
 ·obtain⟨b,bc,h1,h2,h3⟩:=h;exact⟨b,bc,h1,h2.below hb,h3⟩
 ·exact h
 ·exact h
 ·exact h
 ·exact h
 ·obtain⟨b,bc,h1,h2,h3⟩:=h;exact⟨b,bc,h1,h2.below hb,h3⟩
 ·obtain⟨b,bc,h1,h2,h3⟩:=h;exact⟨b,bc,h1,h2.below hb,h3⟩
 ·exact h
 ·obtain⟨b,bc,h1,h2,h3⟩:=h;exact⟨b,bc,h1,h2.below hb,h3⟩
 ·exact h
 ·obtain⟨b,bc,h1,h2,h3⟩:=h;exact⟨b,bc,h1,h2.below hb,h3⟩
 ·obtain⟨b,bc,h1,h2,h3⟩:=h;exact⟨b,bc,h1,h2.below hb,h3⟩
 ·exact h
 ·trivial
theorem lh_region {id:Nat}{ops:Array Oper}{Q:Exit→Act→World→Prop}{a0:Act}{w0:World}(cb D0 qc kc vc:Nat)(qa ka va:Option Addr)(hh p:Int)(OQ OK:List Int)(S:World→Prop)(hlow:lowB ops=true)(hsz:ops.size=20)
  (o0:OpIn ops 0 (some 101) (.move (.tmp 10)) none []) (o1:OpIn ops 1 (some 102) (.fieldAddr 23 (.tmp 13) 1) none []) (o2:OpIn ops 2 (some 103) (.load 3 (.tmp 102)) none [1]) (o3:OpIn ops 3 (some 104) (.move (.tmp 3)) none []) (o4:OpIn ops 4 (some 105) (.call { callee:=.value (.func 95),args:=#[.tmp 101,.tmp 103,.tmp 104],argTypes:=#[34,3,3] }) none [0,2,3]) (o5:OpIn ops 5 (some 106) (.extract (.tmp 105) 0) none [4]) (o6:OpIn ops 6 (some 107) (.extract (.tmp 105) 1) none [4]) (o7:OpIn ops 7 (some 108) (.call { callee:=.value (.func 48),args:=#[.tmp 106,.tmp 107],argTypes:=#[34,35] }) none [5,6]) (o8:OpIn ops 8 (some 109) (.move (.tmp 11)) none []) (o9:OpIn ops 9 (some 110) (.fieldAddr 23 (.tmp 13) 1) none []) (o10:OpIn ops 10 (some 111) (.load 3 (.tmp 110)) none [9]) (o11:OpIn ops 11 (some 112) (.move (.tmp 3)) none []) (o12:OpIn ops 12 (some 113) (.call { callee:=.value (.func 95),args:=#[.tmp 109,.tmp 111,.tmp 112],argTypes:=#[34,3,3] }) none [8,10,11]) (o13:OpIn ops 13 (some 114) (.extract (.tmp 113) 0) none [12]) (o14:OpIn ops 14 (some 115) (.extract (.tmp 113) 1) none [12]) (o15:OpIn ops 15 (some 116) (.call { callee:=.value (.func 48),args:=#[.tmp 114,.tmp 115],argTypes:=#[34,35] }) none [13,14]) (o16:OpIn ops 16 (some 117) (.move (.tmp 12)) none []) (o17:OpIn ops 17 (some 10) (.assign (.tmp 108)) none [0,7]) (o18:OpIn ops 18 (some 11) (.assign (.tmp 116)) none [8,15]) (o19:OpIn ops 19 (some 12) (.assign (.tmp 117)) none [16])
  (hS:S w0.drew)
  (x1:∀ w,(Instr.fieldAt 23 (.pointer (some ⟨cb,0,none⟩)) 1).run Tryz.prog w=.ok (.pointer (some ⟨cb,1,none⟩)) w)
  (x2:∀ w,S w→(Instr.loadAt 3 (.pointer (some ⟨cb,1,none⟩))).run Tryz.prog w=.ok (.int .i64 hh) w)
  (x4:∀ w,S w→Calls Tryz.prog 95 #[.slice qa D0 qc,.int .i64 hh,.int .i64 p] w fun e w'=>∃ b bc,e=.returned (.tuple #[.slice b D0 bc,.int .i64 0])∧Reads .i64 w' b D0 OQ∧D0≤bc∧Below w.heap.size w w'∧S w')
  (x7:True)
  (x9:∀ w,(Instr.fieldAt 23 (.pointer (some ⟨cb,0,none⟩)) 1).run Tryz.prog w=.ok (.pointer (some ⟨cb,1,none⟩)) w)
  (x10:∀ w,S w→(Instr.loadAt 3 (.pointer (some ⟨cb,1,none⟩))).run Tryz.prog w=.ok (.int .i64 hh) w)
  (x12:∀ w,S w→Calls Tryz.prog 95 #[.slice ka D0 kc,.int .i64 hh,.int .i64 p] w fun e w'=>∃ b bc,e=.returned (.tuple #[.slice b D0 bc,.int .i64 0])∧Reads .i64 w' b D0 OK∧D0≤bc∧Below w.heap.size w w'∧S w')
  (x15:True)
  (u3:a0.tmps.getD 3 undef=.int .i64 p)
  (u10:a0.tmps.getD 10 undef=.slice qa D0 qc)
  (u11:a0.tmps.getD 11 undef=.slice ka D0 kc)
  (u12:a0.tmps.getD 12 undef=.slice va D0 vc)
  (u13:a0.tmps.getD 13 undef=.pointer (some ⟨cb,0,none⟩))
  (hs:118≤a0.tmps.size)
  (fin:∀ a w,a.tmps.size=a0.tmps.size→a.defers=a0.defers→(∀ s,(∀ i,i<20→lhD i≠some s)→a.tmps.getD s undef=a0.tmps.getD s undef)→S w→(∀ i d,i<20→lhD i=some d→lhF cb D0 qc kc vc qa ka va hh p OQ OK i (a.tmps.getD d undef) w)→Q .normal a w):(Code.region id ops true).wp Tryz.prog Q a0 w0:=by
 have r48:∀ args w,(callFunc 48 args).run Tryz.prog w=.ok (.enter 48 args) w:=eNo Tryz.func48 (by kernel_rfl) rfl
 have r95:∀ args w,(callFunc 95 args).run Tryz.prog w=.ok (.enter 95 args) w:=eNo Tryz.func95 (by kernel_rfl) rfl
 refine wp_region_inv2 (by kernel_rfl) hlow (Inv 20 lhD a0 (fun l a w=>S w∧Kept2 20 lhD a0 l a) (fun _=>lhF cb D0 qc kc vc qa ka va hh p OQ OK)) (Inv.start ⟨hS,kept2_start _ _ _⟩) ?_ ?_
 ·intro l i o a w ho hl hcl hdep hI
  have hi:i<20:=by rw[←hsz];exact (Array.getElem?_eq_some_iff.1 ho).1
  have ev:∀ (s:Nat),a.eval (.tmp s)=a.tmps.getD s undef:=fun _=>rfl
  have evf:∀ f,a.eval (.func f)=.func (.func f) #[] #[]:=fun _=>rfl
  have evc:∀ c:Value,a.eval (.const c)=c:=fun _=>rfl
  have inj:∀ d,lhD i=some d→∀ j d',j<20→lhD j=some d'→j≠i→d'≠d:=fun d hd j d' hj hd' hne e=>hne (lhD_inj j hj i hi (by rw[hd',hd,e]) (by rw[hd'];simp))
  have kp:∀ s,(∀ i,i<20→lhD i≠some s)→a.tmps.getD s undef=a0.tmps.getD s undef:=hI.kept
  have hw:S w:=hI.world.1
  have k2:=hI.world.2
  have ex0:=hI.world.2
  have go:∀ {d:Nat}{v:Value}{w':World},lhD i=some d→Below w.heap.size w w'→S w'→lhF cb D0 qc kc vc qa ka va hh p OQ OK i v w'→Inv 20 lhD a0 (fun l a w=>S w∧Kept2 20 lhD a0 l a) (fun _=>lhF cb D0 qc kc vc qa ka va hh p OQ OK) (fun j=>l j || j==i) (a.put (some d) v) w':=by
   intro d v w' hD hb hS' hF
   exact hI.put hi hD (Nat.lt_of_lt_of_le (lhD_lt i hi d hD) hs) (inj d hD) ⟨hS',k2.put hD (by rw[hI.size];exact Nat.lt_of_lt_of_le (lhD_lt i hi d hD) hs) hi⟩ hF (fun j u _ _ _ hf=>lhF_below hf hb)
  rcases (show i=0∨i=1∨i=2∨i=3∨i=4∨i=5∨i=6∨i=7∨i=8∨i=9∨i=10∨i=11∨i=12∨i=13∨i=14∨i=15∨i=16∨i=17∨i=18∨i=19 by omega) with rfl|rfl|rfl|rfl|rfl|rfl|rfl|rfl|rfl|rfl|rfl|rfl|rfl|rfl|rfl|rfl|rfl|rfl|rfl|rfl
  ·obtain⟨o',e1,e2,e3,e4,e5⟩:=o0
   obtain rfl:=sOp ho e1
   have dp:=dPo e5 hdep
   have U10:a.tmps.getD 10 undef=.slice qa D0 qc:=(k2 10 (fun j hj hjl e=>by
    obtain rfl:=lhD_inj j hj 17 (by decide) (e.trans rfl) (by rw[e];simp)
    have y0:=hcl.dep' o17 hjl 0 (by decide)
    rw[hl] at y0
    cases y0)).trans u10
   exact wVa (v:=.slice qa D0 qc) (w':=w) ho e4 (by simp[execOp,e3,ev,evc,U10]) (by rw[e2];exact go rfl (Below.refl _ _) hw rfl)
  ·obtain⟨o',e1,e2,e3,e4,e5⟩:=o1
   obtain rfl:=sOp ho e1
   have dp:=dPo e5 hdep
   have U13:a.tmps.getD 13 undef=.pointer (some ⟨cb,0,none⟩):=(kp 13 (by decide)).trans u13
   exact wVa (v:=.pointer (some ⟨cb,1,none⟩)) (w':=w) ho e4 (by simp[execOp,e3,ev,evc,U13,x1 w]) (by rw[e2];exact go rfl (Below.refl _ _) hw rfl)
  ·obtain⟨o',e1,e2,e3,e4,e5⟩:=o2
   obtain rfl:=sOp ho e1
   have dp:=dPo e5 hdep
   have V1:a.tmps.getD 102 undef=.pointer (some ⟨cb,1,none⟩):=hI.val 1 102 (by decide) rfl (dp 1 (by decide))
   exact wVa (v:=.int .i64 hh) (w':=w) ho e4 (by simp[execOp,e3,ev,evc,V1,x2 w hw]) (by rw[e2];exact go rfl (Below.refl _ _) hw rfl)
  ·obtain⟨o',e1,e2,e3,e4,e5⟩:=o3
   obtain rfl:=sOp ho e1
   have dp:=dPo e5 hdep
   have U3:a.tmps.getD 3 undef=.int .i64 p:=(kp 3 (by decide)).trans u3
   exact wVa (v:=.int .i64 p) (w':=w) ho e4 (by simp[execOp,e3,ev,evc,U3]) (by rw[e2];exact go rfl (Below.refl _ _) hw rfl)
  ·obtain⟨o',e1,e2,e3,e4,e5⟩:=o4
   obtain rfl:=sOp ho e1
   have dp:=dPo e5 hdep
   have V0:a.tmps.getD 101 undef=.slice qa D0 qc:=hI.val 0 101 (by decide) rfl (dp 0 (by decide))
   have V2:a.tmps.getD 103 undef=.int .i64 hh:=hI.val 2 103 (by decide) rfl (dp 2 (by decide))
   have V3:a.tmps.getD 104 undef=.int .i64 p:=hI.val 3 104 (by decide) rfl (dp 3 (by decide))
   refine wCa (f:=95) (args:=#[.slice qa D0 qc,.int .i64 hh,.int .i64 p]) ho e4 (by simp[execOp,e3,resolve,invoke,Deferred.ofValue,r95,ev,evf,evc,V0,V2,V3]) ((x4 w hw).mono ?_)
   rintro e W' ⟨b,bc,rfl,hr6,hz6,hb6,hs6⟩
   refine⟨_,rfl,?_⟩
   rw[e2]
   exact go rfl hb6 hs6 ⟨b,bc,rfl,hr6,hz6⟩
  ·obtain⟨o',e1,e2,e3,e4,e5⟩:=o5
   obtain rfl:=sOp ho e1
   have dp:=dPo e5 hdep
   obtain⟨b4,c4,V4,f4,z4⟩:∃ b bc,a.tmps.getD 105 undef=.tuple #[.slice b D0 bc,.int .i64 0]∧Reads .i64 w b D0 OQ∧D0≤bc:=hI.val 4 105 (by decide) rfl (dp 4 (by decide))
   exact wVa (v:=.slice b4 D0 c4) (w':=w) ho e4 (by simp[execOp,e3,ev,evc,V4,Instr.extract]) (by rw[e2];exact go rfl (Below.refl _ _) hw ⟨_,_,rfl,f4,z4⟩)
  ·obtain⟨o',e1,e2,e3,e4,e5⟩:=o6
   obtain rfl:=sOp ho e1
   have dp:=dPo e5 hdep
   obtain⟨b4,c4,V4,f4,z4⟩:∃ b bc,a.tmps.getD 105 undef=.tuple #[.slice b D0 bc,.int .i64 0]∧Reads .i64 w b D0 OQ∧D0≤bc:=hI.val 4 105 (by decide) rfl (dp 4 (by decide))
   exact wVa (v:=.int .i64 0) (w':=w) ho e4 (by simp[execOp,e3,ev,evc,V4,Instr.extract]) (by rw[e2];exact go rfl (Below.refl _ _) hw rfl)
  ·obtain⟨o',e1,e2,e3,e4,e5⟩:=o7
   obtain rfl:=sOp ho e1
   have dp:=dPo e5 hdep
   obtain⟨b5,c5,V5,f5,z5⟩:∃ b bc,a.tmps.getD 106 undef=.slice b D0 bc∧Reads .i64 w b D0 OQ∧D0≤bc:=hI.val 5 106 (by decide) rfl (dp 5 (by decide))
   have V6:a.tmps.getD 107 undef=.int .i64 0:=hI.val 6 107 (by decide) rfl (dp 6 (by decide))
   refine wCa (f:=48) (args:=#[.slice b5 D0 c5,.int .i64 0]) ho e4 (by simp[execOp,e3,resolve,invoke,Deferred.ofValue,r48,ev,evf,evc,V5,V6]) ((mdmust_yes _ _ _ w).mono ?_)
   rintro e W' ⟨rfl,hq6⟩
   refine⟨_,rfl,?_⟩
   rw[e2]
   exact go rfl (by rw[hq6];exact Below.refl _ _) (by rw[hq6];exact hw) ⟨_,_,rfl,(by rw[hq6];exact f5),z5⟩
  ·obtain⟨o',e1,e2,e3,e4,e5⟩:=o8
   obtain rfl:=sOp ho e1
   have dp:=dPo e5 hdep
   have U11:a.tmps.getD 11 undef=.slice ka D0 kc:=(k2 11 (fun j hj hjl e=>by
    obtain rfl:=lhD_inj j hj 18 (by decide) (e.trans rfl) (by rw[e];simp)
    have y0:=hcl.dep' o18 hjl 8 (by decide)
    rw[hl] at y0
    cases y0)).trans u11
   exact wVa (v:=.slice ka D0 kc) (w':=w) ho e4 (by simp[execOp,e3,ev,evc,U11]) (by rw[e2];exact go rfl (Below.refl _ _) hw rfl)
  ·obtain⟨o',e1,e2,e3,e4,e5⟩:=o9
   obtain rfl:=sOp ho e1
   have dp:=dPo e5 hdep
   have U13:a.tmps.getD 13 undef=.pointer (some ⟨cb,0,none⟩):=(kp 13 (by decide)).trans u13
   exact wVa (v:=.pointer (some ⟨cb,1,none⟩)) (w':=w) ho e4 (by simp[execOp,e3,ev,evc,U13,x9 w]) (by rw[e2];exact go rfl (Below.refl _ _) hw rfl)
  ·obtain⟨o',e1,e2,e3,e4,e5⟩:=o10
   obtain rfl:=sOp ho e1
   have dp:=dPo e5 hdep
   have V9:a.tmps.getD 110 undef=.pointer (some ⟨cb,1,none⟩):=hI.val 9 110 (by decide) rfl (dp 9 (by decide))
   exact wVa (v:=.int .i64 hh) (w':=w) ho e4 (by simp[execOp,e3,ev,evc,V9,x10 w hw]) (by rw[e2];exact go rfl (Below.refl _ _) hw rfl)
  ·obtain⟨o',e1,e2,e3,e4,e5⟩:=o11
   obtain rfl:=sOp ho e1
   have dp:=dPo e5 hdep
   have U3:a.tmps.getD 3 undef=.int .i64 p:=(kp 3 (by decide)).trans u3
   exact wVa (v:=.int .i64 p) (w':=w) ho e4 (by simp[execOp,e3,ev,evc,U3]) (by rw[e2];exact go rfl (Below.refl _ _) hw rfl)
  ·obtain⟨o',e1,e2,e3,e4,e5⟩:=o12
   obtain rfl:=sOp ho e1
   have dp:=dPo e5 hdep
   have V8:a.tmps.getD 109 undef=.slice ka D0 kc:=hI.val 8 109 (by decide) rfl (dp 8 (by decide))
   have V10:a.tmps.getD 111 undef=.int .i64 hh:=hI.val 10 111 (by decide) rfl (dp 10 (by decide))
   have V11:a.tmps.getD 112 undef=.int .i64 p:=hI.val 11 112 (by decide) rfl (dp 11 (by decide))
   refine wCa (f:=95) (args:=#[.slice ka D0 kc,.int .i64 hh,.int .i64 p]) ho e4 (by simp[execOp,e3,resolve,invoke,Deferred.ofValue,r95,ev,evf,evc,V8,V10,V11]) ((x12 w hw).mono ?_)
   rintro e W' ⟨b,bc,rfl,hr6,hz6,hb6,hs6⟩
   refine⟨_,rfl,?_⟩
   rw[e2]
   exact go rfl hb6 hs6 ⟨b,bc,rfl,hr6,hz6⟩
  ·obtain⟨o',e1,e2,e3,e4,e5⟩:=o13
   obtain rfl:=sOp ho e1
   have dp:=dPo e5 hdep
   obtain⟨b12,c12,V12,f12,z12⟩:∃ b bc,a.tmps.getD 113 undef=.tuple #[.slice b D0 bc,.int .i64 0]∧Reads .i64 w b D0 OK∧D0≤bc:=hI.val 12 113 (by decide) rfl (dp 12 (by decide))
   exact wVa (v:=.slice b12 D0 c12) (w':=w) ho e4 (by simp[execOp,e3,ev,evc,V12,Instr.extract]) (by rw[e2];exact go rfl (Below.refl _ _) hw ⟨_,_,rfl,f12,z12⟩)
  ·obtain⟨o',e1,e2,e3,e4,e5⟩:=o14
   obtain rfl:=sOp ho e1
   have dp:=dPo e5 hdep
   obtain⟨b12,c12,V12,f12,z12⟩:∃ b bc,a.tmps.getD 113 undef=.tuple #[.slice b D0 bc,.int .i64 0]∧Reads .i64 w b D0 OK∧D0≤bc:=hI.val 12 113 (by decide) rfl (dp 12 (by decide))
   exact wVa (v:=.int .i64 0) (w':=w) ho e4 (by simp[execOp,e3,ev,evc,V12,Instr.extract]) (by rw[e2];exact go rfl (Below.refl _ _) hw rfl)
  ·obtain⟨o',e1,e2,e3,e4,e5⟩:=o15
   obtain rfl:=sOp ho e1
   have dp:=dPo e5 hdep
   obtain⟨b13,c13,V13,f13,z13⟩:∃ b bc,a.tmps.getD 114 undef=.slice b D0 bc∧Reads .i64 w b D0 OK∧D0≤bc:=hI.val 13 114 (by decide) rfl (dp 13 (by decide))
   have V14:a.tmps.getD 115 undef=.int .i64 0:=hI.val 14 115 (by decide) rfl (dp 14 (by decide))
   refine wCa (f:=48) (args:=#[.slice b13 D0 c13,.int .i64 0]) ho e4 (by simp[execOp,e3,resolve,invoke,Deferred.ofValue,r48,ev,evf,evc,V13,V14]) ((mdmust_yes _ _ _ w).mono ?_)
   rintro e W' ⟨rfl,hq6⟩
   refine⟨_,rfl,?_⟩
   rw[e2]
   exact go rfl (by rw[hq6];exact Below.refl _ _) (by rw[hq6];exact hw) ⟨_,_,rfl,(by rw[hq6];exact f13),z13⟩
  ·obtain⟨o',e1,e2,e3,e4,e5⟩:=o16
   obtain rfl:=sOp ho e1
   have dp:=dPo e5 hdep
   have U12:a.tmps.getD 12 undef=.slice va D0 vc:=(k2 12 (fun j hj hjl e=>by
    obtain rfl:=lhD_inj j hj 19 (by decide) (e.trans rfl) (by rw[e];simp)
    have y0:=hcl.dep' o19 hjl 16 (by decide)
    rw[hl] at y0
    cases y0)).trans u12
   exact wVa (v:=.slice va D0 vc) (w':=w) ho e4 (by simp[execOp,e3,ev,evc,U12]) (by rw[e2];exact go rfl (Below.refl _ _) hw rfl)
  ·obtain⟨o',e1,e2,e3,e4,e5⟩:=o17
   obtain rfl:=sOp ho e1
   have dp:=dPo e5 hdep
   have V0:a.tmps.getD 101 undef=.slice qa D0 qc:=hI.val 0 101 (by decide) rfl (dp 0 (by decide))
   obtain⟨b7,c7,V7,f7,z7⟩:∃ b bc,a.tmps.getD 108 undef=.slice b D0 bc∧Reads .i64 w b D0 OQ∧D0≤bc:=hI.val 7 108 (by decide) rfl (dp 7 (by decide))
   exact wVa (v:=.slice b7 D0 c7) (w':=w) ho e4 (by simp[execOp,e3,ev,evc,V0,V7]) (by rw[e2];exact go rfl (Below.refl _ _) hw ⟨_,_,rfl,f7,z7⟩)
  ·obtain⟨o',e1,e2,e3,e4,e5⟩:=o18
   obtain rfl:=sOp ho e1
   have dp:=dPo e5 hdep
   have V8:a.tmps.getD 109 undef=.slice ka D0 kc:=hI.val 8 109 (by decide) rfl (dp 8 (by decide))
   obtain⟨b15,c15,V15,f15,z15⟩:∃ b bc,a.tmps.getD 116 undef=.slice b D0 bc∧Reads .i64 w b D0 OK∧D0≤bc:=hI.val 15 116 (by decide) rfl (dp 15 (by decide))
   exact wVa (v:=.slice b15 D0 c15) (w':=w) ho e4 (by simp[execOp,e3,ev,evc,V8,V15]) (by rw[e2];exact go rfl (Below.refl _ _) hw ⟨_,_,rfl,f15,z15⟩)
  ·obtain⟨o',e1,e2,e3,e4,e5⟩:=o19
   obtain rfl:=sOp ho e1
   have dp:=dPo e5 hdep
   have V16:a.tmps.getD 117 undef=.slice va D0 vc:=hI.val 16 117 (by decide) rfl (dp 16 (by decide))
   exact wVa (v:=.slice va D0 vc) (w':=w) ho e4 (by simp[execOp,e3,ev,evc,V16]) (by rw[e2];exact go rfl (Below.refl _ _) hw rfl)
 ·intro l a w hall hI
  have all:∀ j,j<20→l j=true:=fun j hj=>hall j (by rw[hsz];exact hj)
  exact fin a w hI.size hI.defers hI.kept hI.world.1 (fun i d hi hD=>hI.val i d hi hD (all i hi))
end
section
theorem run_append_wherem {P:Program}(w:World)(base:Nat)(t ty e:TypeId)(i:TypeInfo)(z:Value)(bytes:Nat)(ht:P.underlying t=some (.slice e))(hi:P.info? e=some i)(hz:i.zero=some z)
  (hsize:i.size=1) (hby:i.bytes=bytes) (hzs:z.cells.size=1) (v:Value) (n:Nat) (xs:List Value) (hown:w.ownsRow base e 1 v n xs)
  (ad:Addr) (m c:Nat) (news:List Value) (hl:news.length=m) (hnews:∀ j u,news[j]? = some u→w.cell? (ad.add j)=some u) (h1:∀ u∈news,u.oneCell'=true)
  (h63:n+m≤maxLen) (hbytes:(n+m)*bytes≤140737488355328) (hbase:base≤w.heap.size) :
  ∃ v' w',(Builtin.append_ #[t,t] ty #[v,.slice (some ad) m c]).run P w=.ok v' w'∧w'.ownsRow base e 1 v' (n+m) (xs++news)∧w.grownBy w' v.ownBlock∧Stays w v v':=by
 have weak:∀ {w':World}{v':Value}{cs:List Value},w'.ownsRow w.heap.size e 1 v' (n+m) cs→w'.ownsRow base e 1 v' (n+m) cs∧Stays w v v':=by
  intro w' v' cs h
  refine⟨⟨h.1,?_⟩,.inr fun g hg=>(h.lt g hg).1⟩
  rcases h.2 with h2|⟨g,cap,cur,hv,hg,r⟩
  ·exact .inl h2
  ·exact .inr ⟨g,cap,cur,hv,by omega,r⟩
 rcases hown.2 with⟨rfl,rfl⟩|⟨g,cap,cur,rfl,hg,hh,hn,hm,hs,htake⟩
 ·obtain rfl:xs=[]:=List.eq_nil_of_length_eq_zero (by simpa using hown.1)
  obtain⟨v',w',hr,h2,h3,_⟩:=run_append_own (P:=P) w w.heap.size t ty e i z 1 bytes ht hi hz hsize hby hzs (by decide) (.slice none 0 0) 0 [] (World.ownsRow_nil w _ e 1) ad m c news (by omega) hnews h1 h63 hbytes (Nat.le_refl _)
  exact⟨v',w',hr,(weak h2).1,h3,(weak h2).2⟩
 ·by_cases hfit:n+m≤cap
  ·obtain⟨w',hr,h2,h3⟩:=run_append_fits (P:=P) w base t ty e i 1 ht hi hsize g n cap xs hown ad m c news (by omega) hnews h1 hfit
   exact⟨_,w',hr,h2,h3,.inl rfl⟩
  ·obtain⟨v',w',hr,h2,h3⟩:=run_append_arg_grows (P:=P) w t ty e i z 1 bytes ht hi hz hsize hby hzs (by decide) ⟨g,0,none⟩ n cap xs hown.1 (hown.cells rfl) ad m c news (by omega) hnews (by omega) h63 hbytes
   exact⟨v',w',hr,(weak h2).1,⟨h3.os,h3.tape,h3.output,h3.size,fun k hk _=>h3.block k hk (by simp)⟩,(weak h2).2⟩
theorem run_index31 (x:Addr)(n c k:Nat)(h:k<n)(w:World):(Instr.indexAt 31 (.slice (some x) n c) (.int .i64 (k:Int))).run Tryz.prog w=.ok (.pointer (some (x.add k))) w:=by
 have h1:(k:Int)<(n:Int):=by omega
 go_simp
theorem run_load34 {w:World}{p:Addr}{a:Option Addr}{n c:Nat}(h:w.cell? p=some (.slice a n c)):(Instr.loadAt 34 (.pointer (some p))).run Tryz.prog w=.ok (.slice a n c) w:=by go_simp
end
section
def sfD (i:Nat):Option Nat:=match i with|0=>some 41|1=>some 42|2=>some 43|3=>some 44|4=>some 45|5=>some 46|6=>some 47|7=>some 48|8=>some 49|9=>some 50|10=>some 51|_=>none
theorem sfD_inj:∀ i,i<11→∀ j,j<11→sfD i=sfD j→sfD i≠none→i=j:=by decide
theorem sfD_lt:∀ i,i<11→∀ d,sfD i=some d→d<123:=by
 intro i hi d h
 have:∀ i,i<11→(sfD i).all (fun d=>decide (d<123))=true:=by decide
 have:=this i hi
 rw[h] at this
 simpa using this
def sfF (M:Md)(cb np pc:Nat)(pa:Option Addr)(p sz df wd:Int)(bb:Bool)(i:Nat)(q:Value)(w:World):Prop:=match i with
 | 0=>q=.slice pa np pc
 | 1=>q=.int .i64 p
 | 2=>q=.int .i64 p
 | 3=>q=.pointer (some ⟨cb,7,none⟩)
 | 4=>q=.int .i64 M.n
 | 5=>q=.int .i64 sz
 | 6=>q=.int .i64 df
 | 7=>q=.agg #[.int .i64 M.d,.int .i64 M.h,.int .i64 M.l,.int .i64 M.v,.int .i64 M.u,.int .i64 M.x,.int .i64 M.t,.int .i64 M.n]
 | 8=>q=.int .i64 wd
 | 9=>q=.bool bb
 | 10=>q=.tuple #[]
 | _=>True
theorem sfF_below {M:Md}{cb np pc:Nat}{pa:Option Addr}{p sz df wd:Int}{bb:Bool}{i:Nat}{q:Value}{w w':World}(h:sfF M cb np pc pa p sz df wd bb i q w)(hb:Below w.heap.size w w'):sfF M cb np pc pa p sz df wd bb i q w':=by
 unfold sfF at h ⊢
 split
 ·exact h
 ·exact h
 ·exact h
 ·exact h
 ·exact h
 ·exact h
 ·exact h
 ·exact h
 ·exact h
 ·exact h
 ·exact h
 ·trivial
theorem sf_region {id:Nat}{ops:Array Oper}{Q:Exit→Act→World→Prop}{a0:Act}{w0:World}(M:Md)(cb np pc:Nat)(pa:Option Addr)(p sz df wd:Int)(bb:Bool)(S:World→Prop)(hlow:lowB ops=true)(hsz:ops.size=11)
  (o0:OpIn ops 0 (some 41) (.move (.tmp 2)) none []) (o1:OpIn ops 1 (some 42) (.move (.tmp 3)) none []) (o2:OpIn ops 2 (some 43) (.move (.tmp 3)) none []) (o3:OpIn ops 3 (some 44) (.fieldAddr 23 (.tmp 12) 7) none []) (o4:OpIn ops 4 (some 45) (.load 3 (.tmp 44)) none [3]) (o5:OpIn ops 5 (some 46) (.call { callee:=.value (.func 58),args:=#[.tmp 43,.tmp 45],argTypes:=#[3,3] }) none [2,4]) (o6:OpIn ops 6 (some 47) (.binOp .sub 3 (.tmp 42) (.tmp 46) 3) none [1,5]) (o7:OpIn ops 7 (some 48) (.load 23 (.tmp 12)) none []) (o8:OpIn ops 8 (some 49) (.call { callee:=.value (.func 15),args:=#[.tmp 48],argTypes:=#[23] }) none [7]) (o9:OpIn ops 9 (some 50) (.call { callee:=.value (.func 57),args:=#[.tmp 41,.tmp 47,.tmp 49],argTypes:=#[31,3,3] }) none [0,6,8]) (o10:OpIn ops 10 (some 51) (.call { callee:=.value (.func 56),args:=#[.tmp 50,.const (.int .i64 21)],argTypes:=#[4,35] }) none [9])
  (hS:S w0.drew)
  (x3:∀ w,(Instr.fieldAt 23 (.pointer (some ⟨cb,0,none⟩)) 7).run Tryz.prog w=.ok (.pointer (some ⟨cb,7,none⟩)) w)
  (x4:∀ w,S w→(Instr.loadAt 3 (.pointer (some ⟨cb,7,none⟩))).run Tryz.prog w=.ok (.int .i64 M.n) w)
  (x5:∀ w,Calls Tryz.prog 58 #[.int .i64 p,.int .i64 M.n] w fun e w'=>e=.returned (.int .i64 sz)∧w'=w)
  (x6:∀ w,(binOp .sub 3 (.int .i64 p) (.int .i64 sz)).run Tryz.prog w=.ok (.int .i64 df) w)
  (x7:∀ w,S w→(Instr.loadAt 23 (.pointer (some ⟨cb,0,none⟩))).run Tryz.prog w=.ok (.agg #[.int .i64 M.d,.int .i64 M.h,.int .i64 M.l,.int .i64 M.v,.int .i64 M.u,.int .i64 M.x,.int .i64 M.t,.int .i64 M.n]) w)
  (x8:∀ w,S w→Calls Tryz.prog 15 #[.agg #[.int .i64 M.d,.int .i64 M.h,.int .i64 M.l,.int .i64 M.v,.int .i64 M.u,.int .i64 M.x,.int .i64 M.t,.int .i64 M.n]] w fun e w'=>e=.returned (.int .i64 wd)∧Below w.heap.size w w'∧S w')
  (x9:∀ w,S w→Calls Tryz.prog 57 #[.slice pa np pc,.int .i64 df,.int .i64 wd] w fun e w'=>e=.returned (.bool bb)∧w'=w)
  (x10:∀ w,Calls Tryz.prog 56 #[.bool bb,.int .i64 21] w fun e w'=>e=.returned (.tuple #[])∧w'=w)
  (u2:a0.tmps.getD 2 undef=.slice pa np pc)
  (u3:a0.tmps.getD 3 undef=.int .i64 p)
  (u12:a0.tmps.getD 12 undef=.pointer (some ⟨cb,0,none⟩))
  (hs:123≤a0.tmps.size)
  (fin:∀ a w,a.tmps.size=a0.tmps.size→a.defers=a0.defers→(∀ s,(∀ i,i<11→sfD i≠some s)→a.tmps.getD s undef=a0.tmps.getD s undef)→S w→(∀ i d,i<11→sfD i=some d→sfF M cb np pc pa p sz df wd bb i (a.tmps.getD d undef) w)→Q .normal a w):(Code.region id ops true).wp Tryz.prog Q a0 w0:=by
 have r15:∀ args w,(callFunc 15 args).run Tryz.prog w=.ok (.enter 15 args) w:=eNo Tryz.func15 (by kernel_rfl) rfl
 have r56:∀ args w,(callFunc 56 args).run Tryz.prog w=.ok (.enter 56 args) w:=eNo Tryz.func56 (by kernel_rfl) rfl
 have r57:∀ args w,(callFunc 57 args).run Tryz.prog w=.ok (.enter 57 args) w:=eNo Tryz.func57 (by kernel_rfl) rfl
 have r58:∀ args w,(callFunc 58 args).run Tryz.prog w=.ok (.enter 58 args) w:=eNo Tryz.func58 (by kernel_rfl) rfl
 refine wp_region_inv2 (by kernel_rfl) hlow (Inv 11 sfD a0 (fun l a w=>S w∧Kept2 11 sfD a0 l a) (fun _=>sfF M cb np pc pa p sz df wd bb)) (Inv.start ⟨hS,kept2_start _ _ _⟩) ?_ ?_
 ·intro l i o a w ho hl hcl hdep hI
  have hi:i<11:=by rw[←hsz];exact (Array.getElem?_eq_some_iff.1 ho).1
  have ev:∀ (s:Nat),a.eval (.tmp s)=a.tmps.getD s undef:=fun _=>rfl
  have evf:∀ f,a.eval (.func f)=.func (.func f) #[] #[]:=fun _=>rfl
  have evc:∀ c:Value,a.eval (.const c)=c:=fun _=>rfl
  have inj:∀ d,sfD i=some d→∀ j d',j<11→sfD j=some d'→j≠i→d'≠d:=fun d hd j d' hj hd' hne e=>hne (sfD_inj j hj i hi (by rw[hd',hd,e]) (by rw[hd'];simp))
  have kp:∀ s,(∀ i,i<11→sfD i≠some s)→a.tmps.getD s undef=a0.tmps.getD s undef:=hI.kept
  have hw:S w:=hI.world.1
  have k2:=hI.world.2
  have ex0:=hI.world.2
  have go:∀ {d:Nat}{v:Value}{w':World},sfD i=some d→Below w.heap.size w w'→S w'→sfF M cb np pc pa p sz df wd bb i v w'→Inv 11 sfD a0 (fun l a w=>S w∧Kept2 11 sfD a0 l a) (fun _=>sfF M cb np pc pa p sz df wd bb) (fun j=>l j || j==i) (a.put (some d) v) w':=by
   intro d v w' hD hb hS' hF
   exact hI.put hi hD (Nat.lt_of_lt_of_le (sfD_lt i hi d hD) hs) (inj d hD) ⟨hS',k2.put hD (by rw[hI.size];exact Nat.lt_of_lt_of_le (sfD_lt i hi d hD) hs) hi⟩ hF (fun j u _ _ _ hf=>sfF_below hf hb)
  rcases (show i=0∨i=1∨i=2∨i=3∨i=4∨i=5∨i=6∨i=7∨i=8∨i=9∨i=10 by omega) with rfl|rfl|rfl|rfl|rfl|rfl|rfl|rfl|rfl|rfl|rfl
  ·obtain⟨o',e1,e2,e3,e4,e5⟩:=o0
   obtain rfl:=sOp ho e1
   have dp:=dPo e5 hdep
   have U2:a.tmps.getD 2 undef=.slice pa np pc:=(kp 2 (by decide)).trans u2
   exact wVa (v:=.slice pa np pc) (w':=w) ho e4 (by simp[execOp,e3,ev,evc,U2]) (by rw[e2];exact go rfl (Below.refl _ _) hw rfl)
  ·obtain⟨o',e1,e2,e3,e4,e5⟩:=o1
   obtain rfl:=sOp ho e1
   have dp:=dPo e5 hdep
   have U3:a.tmps.getD 3 undef=.int .i64 p:=(kp 3 (by decide)).trans u3
   exact wVa (v:=.int .i64 p) (w':=w) ho e4 (by simp[execOp,e3,ev,evc,U3]) (by rw[e2];exact go rfl (Below.refl _ _) hw rfl)
  ·obtain⟨o',e1,e2,e3,e4,e5⟩:=o2
   obtain rfl:=sOp ho e1
   have dp:=dPo e5 hdep
   have U3:a.tmps.getD 3 undef=.int .i64 p:=(kp 3 (by decide)).trans u3
   exact wVa (v:=.int .i64 p) (w':=w) ho e4 (by simp[execOp,e3,ev,evc,U3]) (by rw[e2];exact go rfl (Below.refl _ _) hw rfl)
  ·obtain⟨o',e1,e2,e3,e4,e5⟩:=o3
   obtain rfl:=sOp ho e1
   have dp:=dPo e5 hdep
   have U12:a.tmps.getD 12 undef=.pointer (some ⟨cb,0,none⟩):=(kp 12 (by decide)).trans u12
   exact wVa (v:=.pointer (some ⟨cb,7,none⟩)) (w':=w) ho e4 (by simp[execOp,e3,ev,evc,U12,x3 w]) (by rw[e2];exact go rfl (Below.refl _ _) hw rfl)
  ·obtain⟨o',e1,e2,e3,e4,e5⟩:=o4
   obtain rfl:=sOp ho e1
   have dp:=dPo e5 hdep
   have V3:a.tmps.getD 44 undef=.pointer (some ⟨cb,7,none⟩):=hI.val 3 44 (by decide) rfl (dp 3 (by decide))
   exact wVa (v:=.int .i64 M.n) (w':=w) ho e4 (by simp[execOp,e3,ev,evc,V3,x4 w hw]) (by rw[e2];exact go rfl (Below.refl _ _) hw rfl)
  ·obtain⟨o',e1,e2,e3,e4,e5⟩:=o5
   obtain rfl:=sOp ho e1
   have dp:=dPo e5 hdep
   have V2:a.tmps.getD 43 undef=.int .i64 p:=hI.val 2 43 (by decide) rfl (dp 2 (by decide))
   have V4:a.tmps.getD 45 undef=.int .i64 M.n:=hI.val 4 45 (by decide) rfl (dp 4 (by decide))
   refine wCa (f:=58) (args:=#[.int .i64 p,.int .i64 M.n]) ho e4 (by simp[execOp,e3,resolve,invoke,Deferred.ofValue,r58,ev,evf,evc,V2,V4]) ((x5 w).mono ?_)
   rintro e W' ⟨rfl,hq6⟩
   refine⟨_,rfl,?_⟩
   rw[e2]
   exact go rfl (by rw[hq6];exact Below.refl _ _) (by rw[hq6];exact hw) rfl
  ·obtain⟨o',e1,e2,e3,e4,e5⟩:=o6
   obtain rfl:=sOp ho e1
   have dp:=dPo e5 hdep
   have V1:a.tmps.getD 42 undef=.int .i64 p:=hI.val 1 42 (by decide) rfl (dp 1 (by decide))
   have V5:a.tmps.getD 46 undef=.int .i64 sz:=hI.val 5 46 (by decide) rfl (dp 5 (by decide))
   exact wVa (v:=.int .i64 df) (w':=w) ho e4 (by simp[execOp,e3,ev,evc,V1,V5,x6 w,eqGuard]) (by rw[e2];exact go rfl (Below.refl _ _) hw rfl)
  ·obtain⟨o',e1,e2,e3,e4,e5⟩:=o7
   obtain rfl:=sOp ho e1
   have dp:=dPo e5 hdep
   have U12:a.tmps.getD 12 undef=.pointer (some ⟨cb,0,none⟩):=(kp 12 (by decide)).trans u12
   exact wVa (v:=.agg #[.int .i64 M.d,.int .i64 M.h,.int .i64 M.l,.int .i64 M.v,.int .i64 M.u,.int .i64 M.x,.int .i64 M.t,.int .i64 M.n]) (w':=w) ho e4 (by simp[execOp,e3,ev,evc,U12,x7 w hw]) (by rw[e2];exact go rfl (Below.refl _ _) hw rfl)
  ·obtain⟨o',e1,e2,e3,e4,e5⟩:=o8
   obtain rfl:=sOp ho e1
   have dp:=dPo e5 hdep
   have V7:a.tmps.getD 48 undef=.agg #[.int .i64 M.d,.int .i64 M.h,.int .i64 M.l,.int .i64 M.v,.int .i64 M.u,.int .i64 M.x,.int .i64 M.t,.int .i64 M.n]:=hI.val 7 48 (by decide) rfl (dp 7 (by decide))
   refine wCa (f:=15) (args:=#[.agg #[.int .i64 M.d,.int .i64 M.h,.int .i64 M.l,.int .i64 M.v,.int .i64 M.u,.int .i64 M.x,.int .i64 M.t,.int .i64 M.n]]) ho e4 (by simp[execOp,e3,resolve,invoke,Deferred.ofValue,r15,ev,evf,evc,V7]) ((x8 w hw).mono ?_)
   rintro e W' ⟨rfl,hb6,hs6⟩
   refine⟨_,rfl,?_⟩
   rw[e2]
   exact go rfl hb6 hs6 rfl
  ·obtain⟨o',e1,e2,e3,e4,e5⟩:=o9
   obtain rfl:=sOp ho e1
   have dp:=dPo e5 hdep
   have V0:a.tmps.getD 41 undef=.slice pa np pc:=hI.val 0 41 (by decide) rfl (dp 0 (by decide))
   have V6:a.tmps.getD 47 undef=.int .i64 df:=hI.val 6 47 (by decide) rfl (dp 6 (by decide))
   have V8:a.tmps.getD 49 undef=.int .i64 wd:=hI.val 8 49 (by decide) rfl (dp 8 (by decide))
   refine wCa (f:=57) (args:=#[.slice pa np pc,.int .i64 df,.int .i64 wd]) ho e4 (by simp[execOp,e3,resolve,invoke,Deferred.ofValue,r57,ev,evf,evc,V0,V6,V8]) ((x9 w hw).mono ?_)
   rintro e W' ⟨rfl,hq6⟩
   refine⟨_,rfl,?_⟩
   rw[e2]
   exact go rfl (by rw[hq6];exact Below.refl _ _) (by rw[hq6];exact hw) rfl
  ·obtain⟨o',e1,e2,e3,e4,e5⟩:=o10
   obtain rfl:=sOp ho e1
   have dp:=dPo e5 hdep
   have V9:a.tmps.getD 50 undef=.bool bb:=hI.val 9 50 (by decide) rfl (dp 9 (by decide))
   refine wCa (f:=56) (args:=#[.bool bb,.int .i64 21]) ho e4 (by simp[execOp,e3,resolve,invoke,Deferred.ofValue,r56,ev,evf,evc,V9]) ((x10 w).mono ?_)
   rintro e W' ⟨rfl,hq6⟩
   refine⟨_,rfl,?_⟩
   rw[e2]
   exact go rfl (by rw[hq6];exact Below.refl _ _) (by rw[hq6];exact hw) rfl
 ·intro l a w hall hI
  have all:∀ j,j<11→l j=true:=fun j hj=>hall j (by rw[hsz];exact hj)
  exact fin a w hI.size hI.defers hI.kept hI.world.1 (fun i d hi hD=>hI.val i d hi hD (all i hi))
def scD (i:Nat):Option Nat:=match i with|0=>some 76|1=>some 77|2=>some 78|3=>some 79|4=>some 80|5=>some 81|6=>some 82|7=>some 83|8=>some 84|9=>some 85|10=>some 86|11=>some 87|12=>some 88|13=>some 20|14=>some 21|_=>none
theorem scD_inj:∀ i,i<15→∀ j,j<15→scD i=scD j→scD i≠none→i=j:=by decide
theorem scD_lt:∀ i,i<15→∀ d,scD i=some d→d<123:=by
 intro i hi d h
 have:∀ i,i<15→(scD i).all (fun d=>decide (d<123))=true:=by decide
 have:=this i hi
 rw[h] at this
 simpa using this
def scF (cb n pc f1 f2 g:Nat)(pa:Option Addr)(dd:Int)(A1 A2:Nat→Option Addr)(C1:Nat→Nat)(K V:Nat→List Int)(i:Nat)(q:Value)(w:World):Prop:=match i with
 | 0=>q=.slice pa n pc
 | 1=>q=.int .i64 f1
 | 2=>q=.pointer (some ⟨cb,0,none⟩)
 | 3=>q=.int .i64 dd
 | 4=>q=.slice (some ⟨g,0,none⟩) n (n+1)∧OwnGrid g w (.slice (some ⟨g,0,none⟩) n (n+1)) n A1 C1 K
 | 5=>q=.slice pa n pc
 | 6=>q=.int .i64 f1
 | 7=>q=.pointer (some ⟨cb,0,none⟩)
 | 8=>q=.int .i64 dd
 | 9=>q=.int .i64 f2
 | 10=>q=.pointer (some ⟨cb,0,none⟩)
 | 11=>q=.int .i64 dd
 | 12=>∃ b,q=.slice (some ⟨b,0,none⟩) n (n+1)∧g<b∧OwnGrid g w (.slice (some ⟨b,0,none⟩) n (n+1)) n A2 C1 V
 | 13=>q=.slice (some ⟨g,0,none⟩) n (n+1)∧OwnGrid g w (.slice (some ⟨g,0,none⟩) n (n+1)) n A1 C1 K
 | 14=>∃ b,q=.slice (some ⟨b,0,none⟩) n (n+1)∧g<b∧OwnGrid g w (.slice (some ⟨b,0,none⟩) n (n+1)) n A2 C1 V
 | _=>True
theorem scF_below {cb n pc f1 f2 g:Nat}{pa:Option Addr}{dd:Int}{A1 A2:Nat→Option Addr}{C1:Nat→Nat}{K V:Nat→List Int}{i:Nat}{q:Value}{w w':World}(h:scF cb n pc f1 f2 g pa dd A1 A2 C1 K V i q w)(hb:Below w.heap.size w w'):scF cb n pc f1 f2 g pa dd A1 A2 C1 K V i q w':=by
 unfold scF at h ⊢
 split
 ·exact h
 ·exact h
 ·exact h
 ·exact h
 ·exact⟨h.1,h.2.below hb⟩
 ·exact h
 ·exact h
 ·exact h
 ·exact h
 ·exact h
 ·exact h
 ·exact h
 ·obtain⟨b,h1,h2,h3⟩:=h;exact⟨b,h1,h2,h3.below hb⟩
 ·exact⟨h.1,h.2.below hb⟩
 ·obtain⟨b,h1,h2,h3⟩:=h;exact⟨b,h1,h2,h3.below hb⟩
 ·trivial
theorem sc_region {id:Nat}{ops:Array Oper}{Q:Exit→Act→World→Prop}{a0:Act}{w0:World}(cb n pc f1 f2 g:Nat)(pa:Option Addr)(dd:Int)(A1 A2:Nat→Option Addr)(C1:Nat→Nat)(K V:Nat→List Int)(S:World→Prop)(hlow:lowB ops=true)(hsz:ops.size=15)
  (o0:OpIn ops 0 (some 76) (.move (.tmp 2)) none []) (o1:OpIn ops 1 (some 77) (.move (.tmp 19)) none []) (o2:OpIn ops 2 (some 78) (.fieldAddr 23 (.tmp 12) 0) none []) (o3:OpIn ops 3 (some 79) (.load 3 (.tmp 78)) none [2]) (o4:OpIn ops 4 (some 80) (.call { callee:=.value (.func 61),args:=#[.tmp 76,.tmp 77,.tmp 79],argTypes:=#[31,3,3] }) none [0,1,3]) (o5:OpIn ops 5 (some 81) (.move (.tmp 2)) none []) (o6:OpIn ops 6 (some 82) (.move (.tmp 19)) none []) (o7:OpIn ops 7 (some 83) (.fieldAddr 23 (.tmp 12) 0) none []) (o8:OpIn ops 8 (some 84) (.load 3 (.tmp 83)) none [7]) (o9:OpIn ops 9 (some 85) (.binOp .add 3 (.tmp 82) (.tmp 84) 3) none [6,8]) (o10:OpIn ops 10 (some 86) (.fieldAddr 23 (.tmp 12) 0) none []) (o11:OpIn ops 11 (some 87) (.load 3 (.tmp 86)) none [10]) (o12:OpIn ops 12 (some 88) (.call { callee:=.value (.func 61),args:=#[.tmp 81,.tmp 85,.tmp 87],argTypes:=#[31,3,3] }) none [4,5,9,11]) (o13:OpIn ops 13 (some 20) (.assign (.tmp 80)) none [4]) (o14:OpIn ops 14 (some 21) (.assign (.tmp 88)) none [12])
  (hS:S w0.drew)
  (x2:∀ w,(Instr.fieldAt 23 (.pointer (some ⟨cb,0,none⟩)) 0).run Tryz.prog w=.ok (.pointer (some ⟨cb,0,none⟩)) w)
  (x3:∀ w,S w→(Instr.loadAt 3 (.pointer (some ⟨cb,0,none⟩))).run Tryz.prog w=.ok (.int .i64 dd) w)
  (x4:∀ w,S w→w.heap.size=g→Calls Tryz.prog 61 #[.slice pa n pc,.int .i64 f1,.int .i64 dd] w fun e w'=>e=.returned (.slice (some ⟨g,0,none⟩) n (n+1))∧OwnGrid g w' (.slice (some ⟨g,0,none⟩) n (n+1)) n A1 C1 K∧Below w.heap.size w w'∧S w')
  (x7:∀ w,(Instr.fieldAt 23 (.pointer (some ⟨cb,0,none⟩)) 0).run Tryz.prog w=.ok (.pointer (some ⟨cb,0,none⟩)) w)
  (x8:∀ w,S w→(Instr.loadAt 3 (.pointer (some ⟨cb,0,none⟩))).run Tryz.prog w=.ok (.int .i64 dd) w)
  (x9:∀ w,(binOp .add 3 (.int .i64 f1) (.int .i64 dd)).run Tryz.prog w=.ok (.int .i64 f2) w)
  (x10:∀ w,(Instr.fieldAt 23 (.pointer (some ⟨cb,0,none⟩)) 0).run Tryz.prog w=.ok (.pointer (some ⟨cb,0,none⟩)) w)
  (x11:∀ w,S w→(Instr.loadAt 3 (.pointer (some ⟨cb,0,none⟩))).run Tryz.prog w=.ok (.int .i64 dd) w)
  (x12:∀ w,S w→g<w.heap.size→Calls Tryz.prog 61 #[.slice pa n pc,.int .i64 f2,.int .i64 dd] w fun e w'=>∃ b,e=.returned (.slice (some ⟨b,0,none⟩) n (n+1))∧g<b∧OwnGrid g w' (.slice (some ⟨b,0,none⟩) n (n+1)) n A2 C1 V∧Below w.heap.size w w'∧S w')
  (u2:a0.tmps.getD 2 undef=.slice pa n pc)
  (u12:a0.tmps.getD 12 undef=.pointer (some ⟨cb,0,none⟩))
  (u19:a0.tmps.getD 19 undef=.int .i64 f1)
  (hg:w0.heap.size=g)
  (hs:123≤a0.tmps.size)
  (fin:∀ a w,a.tmps.size=a0.tmps.size→a.defers=a0.defers→(∀ s,(∀ i,i<15→scD i≠some s)→a.tmps.getD s undef=a0.tmps.getD s undef)→S w→(∀ i d,i<15→scD i=some d→scF cb n pc f1 f2 g pa dd A1 A2 C1 K V i (a.tmps.getD d undef) w)→Q .normal a w):(Code.region id ops true).wp Tryz.prog Q a0 w0:=by
 have r61:∀ args w,(callFunc 61 args).run Tryz.prog w=.ok (.enter 61 args) w:=eNo Tryz.func61 (by kernel_rfl) rfl
 refine wp_region_inv2 (by kernel_rfl) hlow (Inv 15 scD a0 (fun l a w=>S w∧Kept2 15 scD a0 l a∧(l 4=false→w.heap.size=g)) (fun _=>scF cb n pc f1 f2 g pa dd A1 A2 C1 K V)) (Inv.start ⟨hS,kept2_start _ _ _,(fun _=>hg)⟩) ?_ ?_
 ·intro l i o a w ho hl hcl hdep hI
  have hi:i<15:=by rw[←hsz];exact (Array.getElem?_eq_some_iff.1 ho).1
  have ev:∀ (s:Nat),a.eval (.tmp s)=a.tmps.getD s undef:=fun _=>rfl
  have evf:∀ f,a.eval (.func f)=.func (.func f) #[] #[]:=fun _=>rfl
  have evc:∀ c:Value,a.eval (.const c)=c:=fun _=>rfl
  have inj:∀ d,scD i=some d→∀ j d',j<15→scD j=some d'→j≠i→d'≠d:=fun d hd j d' hj hd' hne e=>hne (scD_inj j hj i hi (by rw[hd',hd,e]) (by rw[hd'];simp))
  have kp:∀ s,(∀ i,i<15→scD i≠some s)→a.tmps.getD s undef=a0.tmps.getD s undef:=hI.kept
  have hw:S w:=hI.world.1
  have k2:=hI.world.2.1
  have ex0:=hI.world.2
  have go:∀ {d:Nat}{v:Value}{w':World},scD i=some d→Below w.heap.size w w'→S w'→((l 4 || 4==i)=false→w'.heap.size=g)→scF cb n pc f1 f2 g pa dd A1 A2 C1 K V i v w'→Inv 15 scD a0 (fun l a w=>S w∧Kept2 15 scD a0 l a∧(l 4=false→w.heap.size=g)) (fun _=>scF cb n pc f1 f2 g pa dd A1 A2 C1 K V) (fun j=>l j || j==i) (a.put (some d) v) w':=by
   intro d v w' hD hb hS' hX hF
   exact hI.put hi hD (Nat.lt_of_lt_of_le (scD_lt i hi d hD) hs) (inj d hD) ⟨hS',k2.put hD (by rw[hI.size];exact Nat.lt_of_lt_of_le (scD_lt i hi d hD) hs) hi,hX⟩ hF (fun j u _ _ _ hf=>scF_below hf hb)
  rcases (show i=0∨i=1∨i=2∨i=3∨i=4∨i=5∨i=6∨i=7∨i=8∨i=9∨i=10∨i=11∨i=12∨i=13∨i=14 by omega) with rfl|rfl|rfl|rfl|rfl|rfl|rfl|rfl|rfl|rfl|rfl|rfl|rfl|rfl|rfl
  ·obtain⟨o',e1,e2,e3,e4,e5⟩:=o0
   obtain rfl:=sOp ho e1
   have dp:=dPo e5 hdep
   have U2:a.tmps.getD 2 undef=.slice pa n pc:=(kp 2 (by decide)).trans u2
   exact wVa (v:=.slice pa n pc) (w':=w) ho e4 (by simp[execOp,e3,ev,evc,U2]) (by rw[e2];exact go rfl (Below.refl _ _) hw (fun e=>ex0.2 (by simpa using e)) rfl)
  ·obtain⟨o',e1,e2,e3,e4,e5⟩:=o1
   obtain rfl:=sOp ho e1
   have dp:=dPo e5 hdep
   have U19:a.tmps.getD 19 undef=.int .i64 f1:=(kp 19 (by decide)).trans u19
   exact wVa (v:=.int .i64 f1) (w':=w) ho e4 (by simp[execOp,e3,ev,evc,U19]) (by rw[e2];exact go rfl (Below.refl _ _) hw (fun e=>ex0.2 (by simpa using e)) rfl)
  ·obtain⟨o',e1,e2,e3,e4,e5⟩:=o2
   obtain rfl:=sOp ho e1
   have dp:=dPo e5 hdep
   have U12:a.tmps.getD 12 undef=.pointer (some ⟨cb,0,none⟩):=(kp 12 (by decide)).trans u12
   exact wVa (v:=.pointer (some ⟨cb,0,none⟩)) (w':=w) ho e4 (by simp[execOp,e3,ev,evc,U12,x2 w]) (by rw[e2];exact go rfl (Below.refl _ _) hw (fun e=>ex0.2 (by simpa using e)) rfl)
  ·obtain⟨o',e1,e2,e3,e4,e5⟩:=o3
   obtain rfl:=sOp ho e1
   have dp:=dPo e5 hdep
   have V2:a.tmps.getD 78 undef=.pointer (some ⟨cb,0,none⟩):=hI.val 2 78 (by decide) rfl (dp 2 (by decide))
   exact wVa (v:=.int .i64 dd) (w':=w) ho e4 (by simp[execOp,e3,ev,evc,V2,x3 w hw]) (by rw[e2];exact go rfl (Below.refl _ _) hw (fun e=>ex0.2 (by simpa using e)) rfl)
  ·obtain⟨o',e1,e2,e3,e4,e5⟩:=o4
   obtain rfl:=sOp ho e1
   have dp:=dPo e5 hdep
   have V0:a.tmps.getD 76 undef=.slice pa n pc:=hI.val 0 76 (by decide) rfl (dp 0 (by decide))
   have V1:a.tmps.getD 77 undef=.int .i64 f1:=hI.val 1 77 (by decide) rfl (dp 1 (by decide))
   have V3:a.tmps.getD 79 undef=.int .i64 dd:=hI.val 3 79 (by decide) rfl (dp 3 (by decide))
   refine wCa (f:=61) (args:=#[.slice pa n pc,.int .i64 f1,.int .i64 dd]) ho e4 (by simp[execOp,e3,resolve,invoke,Deferred.ofValue,r61,ev,evf,evc,V0,V1,V3]) ((x4 w hw (ex0.2 hl)).mono ?_)
   rintro e W' ⟨rfl,ho6,hb6,hs6⟩
   refine⟨_,rfl,?_⟩
   rw[e2]
   exact go rfl hb6 hs6 (fun e=>by simp at e) ⟨rfl,ho6⟩
  ·obtain⟨o',e1,e2,e3,e4,e5⟩:=o5
   obtain rfl:=sOp ho e1
   have dp:=dPo e5 hdep
   have U2:a.tmps.getD 2 undef=.slice pa n pc:=(kp 2 (by decide)).trans u2
   exact wVa (v:=.slice pa n pc) (w':=w) ho e4 (by simp[execOp,e3,ev,evc,U2]) (by rw[e2];exact go rfl (Below.refl _ _) hw (fun e=>ex0.2 (by simpa using e)) rfl)
  ·obtain⟨o',e1,e2,e3,e4,e5⟩:=o6
   obtain rfl:=sOp ho e1
   have dp:=dPo e5 hdep
   have U19:a.tmps.getD 19 undef=.int .i64 f1:=(kp 19 (by decide)).trans u19
   exact wVa (v:=.int .i64 f1) (w':=w) ho e4 (by simp[execOp,e3,ev,evc,U19]) (by rw[e2];exact go rfl (Below.refl _ _) hw (fun e=>ex0.2 (by simpa using e)) rfl)
  ·obtain⟨o',e1,e2,e3,e4,e5⟩:=o7
   obtain rfl:=sOp ho e1
   have dp:=dPo e5 hdep
   have U12:a.tmps.getD 12 undef=.pointer (some ⟨cb,0,none⟩):=(kp 12 (by decide)).trans u12
   exact wVa (v:=.pointer (some ⟨cb,0,none⟩)) (w':=w) ho e4 (by simp[execOp,e3,ev,evc,U12,x7 w]) (by rw[e2];exact go rfl (Below.refl _ _) hw (fun e=>ex0.2 (by simpa using e)) rfl)
  ·obtain⟨o',e1,e2,e3,e4,e5⟩:=o8
   obtain rfl:=sOp ho e1
   have dp:=dPo e5 hdep
   have V7:a.tmps.getD 83 undef=.pointer (some ⟨cb,0,none⟩):=hI.val 7 83 (by decide) rfl (dp 7 (by decide))
   exact wVa (v:=.int .i64 dd) (w':=w) ho e4 (by simp[execOp,e3,ev,evc,V7,x8 w hw]) (by rw[e2];exact go rfl (Below.refl _ _) hw (fun e=>ex0.2 (by simpa using e)) rfl)
  ·obtain⟨o',e1,e2,e3,e4,e5⟩:=o9
   obtain rfl:=sOp ho e1
   have dp:=dPo e5 hdep
   have V6:a.tmps.getD 82 undef=.int .i64 f1:=hI.val 6 82 (by decide) rfl (dp 6 (by decide))
   have V8:a.tmps.getD 84 undef=.int .i64 dd:=hI.val 8 84 (by decide) rfl (dp 8 (by decide))
   exact wVa (v:=.int .i64 f2) (w':=w) ho e4 (by simp[execOp,e3,ev,evc,V6,V8,x9 w,eqGuard]) (by rw[e2];exact go rfl (Below.refl _ _) hw (fun e=>ex0.2 (by simpa using e)) rfl)
  ·obtain⟨o',e1,e2,e3,e4,e5⟩:=o10
   obtain rfl:=sOp ho e1
   have dp:=dPo e5 hdep
   have U12:a.tmps.getD 12 undef=.pointer (some ⟨cb,0,none⟩):=(kp 12 (by decide)).trans u12
   exact wVa (v:=.pointer (some ⟨cb,0,none⟩)) (w':=w) ho e4 (by simp[execOp,e3,ev,evc,U12,x10 w]) (by rw[e2];exact go rfl (Below.refl _ _) hw (fun e=>ex0.2 (by simpa using e)) rfl)
  ·obtain⟨o',e1,e2,e3,e4,e5⟩:=o11
   obtain rfl:=sOp ho e1
   have dp:=dPo e5 hdep
   have V10:a.tmps.getD 86 undef=.pointer (some ⟨cb,0,none⟩):=hI.val 10 86 (by decide) rfl (dp 10 (by decide))
   exact wVa (v:=.int .i64 dd) (w':=w) ho e4 (by simp[execOp,e3,ev,evc,V10,x11 w hw]) (by rw[e2];exact go rfl (Below.refl _ _) hw (fun e=>ex0.2 (by simpa using e)) rfl)
  ·obtain⟨o',e1,e2,e3,e4,e5⟩:=o12
   obtain rfl:=sOp ho e1
   have dp:=dPo e5 hdep
   obtain⟨V4,f4⟩:a.tmps.getD 80 undef=.slice (some ⟨g,0,none⟩) n (n+1)∧OwnGrid g w (.slice (some ⟨g,0,none⟩) n (n+1)) n A1 C1 K:=hI.val 4 80 (by decide) rfl (dp 4 (by decide))
   have V5:a.tmps.getD 81 undef=.slice pa n pc:=hI.val 5 81 (by decide) rfl (dp 5 (by decide))
   have V9:a.tmps.getD 85 undef=.int .i64 f2:=hI.val 9 85 (by decide) rfl (dp 9 (by decide))
   have V11:a.tmps.getD 87 undef=.int .i64 dd:=hI.val 11 87 (by decide) rfl (dp 11 (by decide))
   refine wCa (f:=61) (args:=#[.slice pa n pc,.int .i64 f2,.int .i64 dd]) ho e4 (by simp[execOp,e3,resolve,invoke,Deferred.ofValue,r61,ev,evf,evc,V4,V5,V9,V11]) ((x12 w hw (f4.own.lt g rfl).2).mono ?_)
   rintro e W' ⟨b,rfl,hz6,ho6,hb6,hs6⟩
   refine⟨_,rfl,?_⟩
   rw[e2]
   exact go rfl hb6 hs6 (fun e=>by rw[dp 4 (by decide)] at e;simp at e) ⟨b,rfl,hz6,ho6⟩
  ·obtain⟨o',e1,e2,e3,e4,e5⟩:=o13
   obtain rfl:=sOp ho e1
   have dp:=dPo e5 hdep
   obtain⟨V4,f4⟩:a.tmps.getD 80 undef=.slice (some ⟨g,0,none⟩) n (n+1)∧OwnGrid g w (.slice (some ⟨g,0,none⟩) n (n+1)) n A1 C1 K:=hI.val 4 80 (by decide) rfl (dp 4 (by decide))
   exact wVa (v:=.slice (some ⟨g,0,none⟩) n (n+1)) (w':=w) ho e4 (by simp[execOp,e3,ev,evc,V4]) (by rw[e2];exact go rfl (Below.refl _ _) hw (fun e=>ex0.2 (by simpa using e)) ⟨rfl,f4⟩)
  ·obtain⟨o',e1,e2,e3,e4,e5⟩:=o14
   obtain rfl:=sOp ho e1
   have dp:=dPo e5 hdep
   obtain⟨b12,V12,z12,f12⟩:∃ b,a.tmps.getD 88 undef=.slice (some ⟨b,0,none⟩) n (n+1)∧g<b∧OwnGrid g w (.slice (some ⟨b,0,none⟩) n (n+1)) n A2 C1 V:=hI.val 12 88 (by decide) rfl (dp 12 (by decide))
   exact wVa (v:=.slice (some ⟨b12,0,none⟩) n (n+1)) (w':=w) ho e4 (by simp[execOp,e3,ev,evc,V12]) (by rw[e2];exact go rfl (Below.refl _ _) hw (fun e=>ex0.2 (by simpa using e)) ⟨_,rfl,z12,f12⟩)
 ·intro l a w hall hI
  have all:∀ j,j<15→l j=true:=fun j hj=>hall j (by rw[hsz];exact hj)
  exact fin a w hI.size hI.defers hI.kept hI.world.1 (fun i d hi hD=>hI.val i d hi hD (all i hi))
end
section
def sr17D (i:Nat):Option Nat:=match i with|0=>some 17|1=>some 18|2=>some 19|3=>some 20|4=>some 21|5=>some 22|6=>some 23|7=>some 24|8=>some 25|9=>some 26|_=>none
theorem sr17D_inj:∀ i,i<10→∀ j,j<10→sr17D i=sr17D j→sr17D i≠none→i=j:=by decide
theorem sr17D_lt:∀ i,i<10→∀ d,sr17D i=some d→d<27:=by
 intro i hi d h
 have:∀ i,i<10→(sr17D i).all (fun d=>decide (d<27))=true:=by decide
 have:=this i hi
 rw[h] at this
 simpa using this
def sr17F (n c c2 k la lb ka kb:Nat)(x y:Addr)(ra rb:Option Addr)(i:Nat)(q:Value)(w:World):Prop:=match i with
 | 0=>q=.slice (some x) n c
 | 1=>q=.int .i64 (k:Int)
 | 2=>q=.pointer (some (x.add k))
 | 3=>q=.slice ra la ka
 | 4=>q=.slice (some y) n c2
 | 5=>q=.int .i64 (k:Int)
 | 6=>q=.pointer (some (y.add k))
 | 7=>q=.slice rb lb kb
 | 8=>q=.bool true
 | 9=>q=.bool false
 | _=>True
theorem sr17F_below {n c c2 k la lb ka kb:Nat}{x y:Addr}{ra rb:Option Addr}{i:Nat}{q:Value}{w w':World}(h:sr17F n c c2 k la lb ka kb x y ra rb i q w)(hb:Below w.heap.size w w'):sr17F n c c2 k la lb ka kb x y ra rb i q w':=by
 unfold sr17F at h ⊢
 split
 ·exact h
 ·exact h
 ·exact h
 ·exact h
 ·exact h
 ·exact h
 ·exact h
 ·exact h
 ·exact h
 ·exact h
 ·trivial
theorem sr17_region {id:Nat}{ops:Array Oper}{Q:Exit→Act→World→Prop}{a0:Act}{w0:World}(n c c2 k la lb ka kb:Nat)(x y:Addr)(ra rb:Option Addr)(S:World→Prop)(hlow:lowB ops=true)(hsz:ops.size=10)
  (o0:OpIn ops 0 (some 17) (.move (.tmp 0)) none []) (o1:OpIn ops 1 (some 18) (.move (.tmp 5)) none []) (o2:OpIn ops 2 (some 19) (.indexAddr 31 (.tmp 17) (.tmp 18)) none [0,1]) (o3:OpIn ops 3 (some 20) (.load 34 (.tmp 19)) none [2]) (o4:OpIn ops 4 (some 21) (.move (.tmp 1)) none []) (o5:OpIn ops 5 (some 22) (.move (.tmp 5)) none []) (o6:OpIn ops 6 (some 23) (.indexAddr 31 (.tmp 21) (.tmp 22)) none [4,5]) (o7:OpIn ops 7 (some 24) (.load 34 (.tmp 23)) none [6]) (o8:OpIn ops 8 (some 25) (.call { callee:=.value (.func 14),args:=#[.tmp 20,.tmp 24],argTypes:=#[34,34] }) none [3,7]) (o9:OpIn ops 9 (some 26) (.unOp .not 4 (.tmp 25)) none [8])
  (hS:S w0.drew)
  (x2:∀ w,(Instr.indexAt 31 (.slice (some x) n c) (.int .i64 (k:Int))).run Tryz.prog w=.ok (.pointer (some (x.add k))) w)
  (x3:∀ w,S w→(Instr.loadAt 34 (.pointer (some (x.add k)))).run Tryz.prog w=.ok (.slice ra la ka) w)
  (x6:∀ w,(Instr.indexAt 31 (.slice (some y) n c2) (.int .i64 (k:Int))).run Tryz.prog w=.ok (.pointer (some (y.add k))) w)
  (x7:∀ w,S w→(Instr.loadAt 34 (.pointer (some (y.add k)))).run Tryz.prog w=.ok (.slice rb lb kb) w)
  (x8:∀ w,S w→Calls Tryz.prog 14 #[.slice ra la ka,.slice rb lb kb] w fun e w'=>e=.returned (.bool true)∧Below w.heap.size w w'∧S w')
  (u0:a0.tmps.getD 0 undef=.slice (some x) n c)
  (u1:a0.tmps.getD 1 undef=.slice (some y) n c2)
  (u5:a0.tmps.getD 5 undef=.int .i64 (k:Int))
  (hs:27≤a0.tmps.size)
  (fin:∀ a w,a.tmps.size=a0.tmps.size→a.defers=a0.defers→(∀ s,(∀ i,i<10→sr17D i≠some s)→a.tmps.getD s undef=a0.tmps.getD s undef)→S w→(∀ i d,i<10→sr17D i=some d→sr17F n c c2 k la lb ka kb x y ra rb i (a.tmps.getD d undef) w)→Q .normal a w):(Code.region id ops true).wp Tryz.prog Q a0 w0:=by
 have r14:∀ args w,(callFunc 14 args).run Tryz.prog w=.ok (.enter 14 args) w:=eNo Tryz.func14 (by kernel_rfl) rfl
 refine wp_region_inv2 (by kernel_rfl) hlow (Inv 10 sr17D a0 (fun l a w=>S w∧Kept2 10 sr17D a0 l a) (fun _=>sr17F n c c2 k la lb ka kb x y ra rb)) (Inv.start ⟨hS,kept2_start _ _ _⟩) ?_ ?_
 ·intro l i o a w ho hl hcl hdep hI
  have hi:i<10:=by rw[←hsz];exact (Array.getElem?_eq_some_iff.1 ho).1
  have ev:∀ (s:Nat),a.eval (.tmp s)=a.tmps.getD s undef:=fun _=>rfl
  have evf:∀ f,a.eval (.func f)=.func (.func f) #[] #[]:=fun _=>rfl
  have evc:∀ c:Value,a.eval (.const c)=c:=fun _=>rfl
  have inj:∀ d,sr17D i=some d→∀ j d',j<10→sr17D j=some d'→j≠i→d'≠d:=fun d hd j d' hj hd' hne e=>hne (sr17D_inj j hj i hi (by rw[hd',hd,e]) (by rw[hd'];simp))
  have kp:∀ s,(∀ i,i<10→sr17D i≠some s)→a.tmps.getD s undef=a0.tmps.getD s undef:=hI.kept
  have hw:S w:=hI.world.1
  have k2:=hI.world.2
  have ex0:=hI.world.2
  have go:∀ {d:Nat}{v:Value}{w':World},sr17D i=some d→Below w.heap.size w w'→S w'→sr17F n c c2 k la lb ka kb x y ra rb i v w'→Inv 10 sr17D a0 (fun l a w=>S w∧Kept2 10 sr17D a0 l a) (fun _=>sr17F n c c2 k la lb ka kb x y ra rb) (fun j=>l j || j==i) (a.put (some d) v) w':=by
   intro d v w' hD hb hS' hF
   exact hI.put hi hD (Nat.lt_of_lt_of_le (sr17D_lt i hi d hD) hs) (inj d hD) ⟨hS',k2.put hD (by rw[hI.size];exact Nat.lt_of_lt_of_le (sr17D_lt i hi d hD) hs) hi⟩ hF (fun j u _ _ _ hf=>sr17F_below hf hb)
  rcases (show i=0∨i=1∨i=2∨i=3∨i=4∨i=5∨i=6∨i=7∨i=8∨i=9 by omega) with rfl|rfl|rfl|rfl|rfl|rfl|rfl|rfl|rfl|rfl
  ·obtain⟨o',e1,e2,e3,e4,e5⟩:=o0
   obtain rfl:=sOp ho e1
   have dp:=dPo e5 hdep
   have U0:a.tmps.getD 0 undef=.slice (some x) n c:=(kp 0 (by decide)).trans u0
   exact wVa (v:=.slice (some x) n c) (w':=w) ho e4 (by simp[execOp,e3,ev,evc,U0]) (by rw[e2];exact go rfl (Below.refl _ _) hw rfl)
  ·obtain⟨o',e1,e2,e3,e4,e5⟩:=o1
   obtain rfl:=sOp ho e1
   have dp:=dPo e5 hdep
   have U5:a.tmps.getD 5 undef=.int .i64 (k:Int):=(kp 5 (by decide)).trans u5
   exact wVa (v:=.int .i64 (k:Int)) (w':=w) ho e4 (by simp[execOp,e3,ev,evc,U5]) (by rw[e2];exact go rfl (Below.refl _ _) hw rfl)
  ·obtain⟨o',e1,e2,e3,e4,e5⟩:=o2
   obtain rfl:=sOp ho e1
   have dp:=dPo e5 hdep
   have V0:a.tmps.getD 17 undef=.slice (some x) n c:=hI.val 0 17 (by decide) rfl (dp 0 (by decide))
   have V1:a.tmps.getD 18 undef=.int .i64 (k:Int):=hI.val 1 18 (by decide) rfl (dp 1 (by decide))
   exact wVa (v:=.pointer (some (x.add k))) (w':=w) ho e4 (by simp[execOp,e3,ev,evc,V0,V1,x2 w]) (by rw[e2];exact go rfl (Below.refl _ _) hw rfl)
  ·obtain⟨o',e1,e2,e3,e4,e5⟩:=o3
   obtain rfl:=sOp ho e1
   have dp:=dPo e5 hdep
   have V2:a.tmps.getD 19 undef=.pointer (some (x.add k)):=hI.val 2 19 (by decide) rfl (dp 2 (by decide))
   exact wVa (v:=.slice ra la ka) (w':=w) ho e4 (by simp[execOp,e3,ev,evc,V2,x3 w hw]) (by rw[e2];exact go rfl (Below.refl _ _) hw rfl)
  ·obtain⟨o',e1,e2,e3,e4,e5⟩:=o4
   obtain rfl:=sOp ho e1
   have dp:=dPo e5 hdep
   have U1:a.tmps.getD 1 undef=.slice (some y) n c2:=(kp 1 (by decide)).trans u1
   exact wVa (v:=.slice (some y) n c2) (w':=w) ho e4 (by simp[execOp,e3,ev,evc,U1]) (by rw[e2];exact go rfl (Below.refl _ _) hw rfl)
  ·obtain⟨o',e1,e2,e3,e4,e5⟩:=o5
   obtain rfl:=sOp ho e1
   have dp:=dPo e5 hdep
   have U5:a.tmps.getD 5 undef=.int .i64 (k:Int):=(kp 5 (by decide)).trans u5
   exact wVa (v:=.int .i64 (k:Int)) (w':=w) ho e4 (by simp[execOp,e3,ev,evc,U5]) (by rw[e2];exact go rfl (Below.refl _ _) hw rfl)
  ·obtain⟨o',e1,e2,e3,e4,e5⟩:=o6
   obtain rfl:=sOp ho e1
   have dp:=dPo e5 hdep
   have V4:a.tmps.getD 21 undef=.slice (some y) n c2:=hI.val 4 21 (by decide) rfl (dp 4 (by decide))
   have V5:a.tmps.getD 22 undef=.int .i64 (k:Int):=hI.val 5 22 (by decide) rfl (dp 5 (by decide))
   exact wVa (v:=.pointer (some (y.add k))) (w':=w) ho e4 (by simp[execOp,e3,ev,evc,V4,V5,x6 w]) (by rw[e2];exact go rfl (Below.refl _ _) hw rfl)
  ·obtain⟨o',e1,e2,e3,e4,e5⟩:=o7
   obtain rfl:=sOp ho e1
   have dp:=dPo e5 hdep
   have V6:a.tmps.getD 23 undef=.pointer (some (y.add k)):=hI.val 6 23 (by decide) rfl (dp 6 (by decide))
   exact wVa (v:=.slice rb lb kb) (w':=w) ho e4 (by simp[execOp,e3,ev,evc,V6,x7 w hw]) (by rw[e2];exact go rfl (Below.refl _ _) hw rfl)
  ·obtain⟨o',e1,e2,e3,e4,e5⟩:=o8
   obtain rfl:=sOp ho e1
   have dp:=dPo e5 hdep
   have V3:a.tmps.getD 20 undef=.slice ra la ka:=hI.val 3 20 (by decide) rfl (dp 3 (by decide))
   have V7:a.tmps.getD 24 undef=.slice rb lb kb:=hI.val 7 24 (by decide) rfl (dp 7 (by decide))
   refine wCa (f:=14) (args:=#[.slice ra la ka,.slice rb lb kb]) ho e4 (by simp[execOp,e3,resolve,invoke,Deferred.ofValue,r14,ev,evf,evc,V3,V7]) ((x8 w hw).mono ?_)
   rintro e W' ⟨rfl,hb6,hs6⟩
   refine⟨_,rfl,?_⟩
   rw[e2]
   exact go rfl hb6 hs6 rfl
  ·obtain⟨o',e1,e2,e3,e4,e5⟩:=o9
   obtain rfl:=sOp ho e1
   have dp:=dPo e5 hdep
   have V8:a.tmps.getD 25 undef=.bool true:=hI.val 8 25 (by decide) rfl (dp 8 (by decide))
   exact wVa (v:=.bool false) (w':=w) ho e4 (by simp[execOp,e3,ev,evc,V8,Op.unary]) (by rw[e2];exact go rfl (Below.refl _ _) hw rfl)
 ·intro l a w hall hI
  have all:∀ j,j<10→l j=true:=fun j hj=>hall j (by rw[hsz];exact hj)
  exact fin a w hI.size hI.defers hI.kept hI.world.1 (fun i d hi hD=>hI.val i d hi hD (all i hi))
theorem samerows_call (a:Option Addr)(n c:Nat)(A:Nat→Option Addr)(C:Nat→Nat)(a2:Option Addr)(c2:Nat)(A2:Nat→Option Addr)(C2:Nat→Nat)(R:Nat→List Int)(w:World)(h0:Grid w a n A C R)(h1:Grid w a2 n A2 C2 R) :
  Calls Tryz.prog 25 #[.slice a n c,.slice a2 n c2] w fun e w'=>e=.returned (.bool true)∧Below w.heap.size w w':=by
 have hm:=h0.max
 have z:((n:Int) != (n:Int))=false:=by simp
 go_enter Tryz.func25,Tryz.ntmps25
 go_wp2
 go_loopw [5] (fun i wr=>∃ k:Nat,k≤n∧i=.int .i64 k∧Below w.heap.size w wr) (fun i _=>n-(intOf i).toNat)
 case atStart=>exact⟨0,Nat.zero_le _,rfl,Below.refl _ _⟩
 case round =>
  obtain⟨k,hk,rfl,hbr⟩:=hrel
  by_cases hlt:k<n
  ·obtain⟨x,rfl⟩:=h0.some_ (by omega)
   obtain⟨y,rfl⟩:=h1.some_ (by omega)
   go_wp2
   refine sr17_region n c c2 k (R k).length (R k).length (C k) (C2 k) x y (A k) (A2 k) (fun W=>Below wr.heap.size wr W) (by kernel_rfl) rfl ⟨_,rfl,rfl,rfl,rfl,by kernel_rfl⟩ ⟨_,rfl,rfl,rfl,rfl,by kernel_rfl⟩ ⟨_,rfl,rfl,rfl,rfl,by kernel_rfl⟩ ⟨_,rfl,rfl,rfl,rfl,by kernel_rfl⟩ ⟨_,rfl,rfl,rfl,rfl,by kernel_rfl⟩ ⟨_,rfl,rfl,rfl,rfl,by kernel_rfl⟩ ⟨_,rfl,rfl,rfl,rfl,by kernel_rfl⟩ ⟨_,rfl,rfl,rfl,rfl,by kernel_rfl⟩ ⟨_,rfl,rfl,rfl,rfl,by kernel_rfl⟩ ⟨_,rfl,rfl,rfl,rfl,by kernel_rfl⟩ (Below.refl _ _).drew (run_index31 x n c k hlt) (fun W hb=>run_load34 (((h0.below hbr).below hb).cell x rfl k hlt)) (run_index31 y n c2 k hlt) (fun W hb=>run_load34 (((h1.below hbr).below hb).cell y rfl k hlt)) (fun W hb=>(same_call (A k) _ (C k) (R k) (A2 k) _ (C2 k) W (((h0.below hbr).below hb).row k hlt) (((h1.below hbr).below hb).row k hlt)).mono fun e w' ⟨q1,m,q2⟩=>⟨q1,by rw[q2];exact below_drewN (Below.refl _ _) m,by rw[q2];exact below_drewN hb m⟩) rfl rfl rfl (Nat.le_of_ble_eq_true rfl) ?_
   intro a W9 hs hd hkp hS9 hval
   have e26:a.tmps.getD 26 undef=.bool false:=hval 9 26 (by decide) rfl
   have ep:=fPu [17,18,19,20,21,22,23,24,25,26] hs hd (fun s h=>hkp s (fun i hi e=>h (by
    rcases (show i=0∨i=1∨i=2∨i=3∨i=4∨i=5∨i=6∨i=7∨i=8∨i=9 by omega) with rfl|rfl|rfl|rfl|rfl|rfl|rfl|rfl|rfl|rfl<;>(simp only[sr17D,Option.some.injEq] at e;subst e;simp))))
   simp only[List.foldl] at ep
   rw[e26] at ep
   have H9:=hdn hS9
   clear hs hd hkp hval hS9 e26
   generalize a.tmps.getD 17 undef=g17,a.tmps.getD 18 undef=g18,a.tmps.getD 19 undef=g19,a.tmps.getD 20 undef=g20,a.tmps.getD 21 undef=g21,a.tmps.getD 22 undef=g22,a.tmps.getD 23 undef=g23,a.tmps.getD 24 undef=g24,a.tmps.getD 25 undef=g25 at ep
   simp only[Act.put,List.setIfInBounds_toArray,List.set_cons_succ,List.set_cons_zero] at ep
   subst ep
   have hb9:=hdn (bTn hbr H9.out)
   clear H9 hbr
   go_wp2
   go_roundw
   case rel=>exact⟨k+1,by omega,by go_num,hb9.out⟩
   case measure=>simp[intOf];omega
  ·have e:n=k:=by omega
   subst e
   go_wp2
   go_ret
   exact⟨rfl,hbr⟩
end
end Go.Proofs.YthliomlmhfjhnaaGreat
