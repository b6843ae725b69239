/- Texts put together. -/
import Derived.Test.YtbkjhfmehemgpaaGreatFb40
namespace Go.Proofs.YtbkjhfmehemgpaaGreat
set_option maxRecDepth 20000
set_option maxHeartbeats 16000000
open Go.ChangeShapes Go.WideShapes Go.ChangeAt Go.RowKit
set_option linter.unusedVariables false
set_option linter.unusedSimpArgs false
def ad4D (i:Nat):Option Nat:=match i with|0=>some 17|1=>some 18|2=>some 19|3=>some 20|4=>some 21|5=>some 22|6=>some 23|7=>some 24|8=>some 25|9=>some 26|10=>some 27|11=>some 28|12=>some 29|13=>some 30|14=>some 31|15=>some 32|16=>some 16|17=>some 33|18=>some 34|19=>some 7|21=>some 8|_=>none
theorem ad4D_inj:∀ i,i<22→∀ j,j<22→ad4D i=ad4D j→ad4D i≠none→i=j:=by decide
def ad4F (cfD cfH cfL cfV cfU cfX cfT cfN rk sf sd9 q1 q2 q3:Int)(nn cb:Nat)(zs:List Int)(ee:Int)(g9:Nat)(z9:Array Value)(k:Nat→Bool)(j:Nat)(q:Value)(w:World):Prop:=match j with
 | 0=>q=.int .i64 rk
 | 1=>q=.int .u64 sd9
 | 2=>q=.int .u64 sf
 | 3=>q=.int .i64 sf
 | 4=>q=.agg #[.int .i64 cfD,.int .i64 cfH,.int .i64 cfL,.int .i64 cfV,.int .i64 cfU,.int .i64 cfX,.int .i64 cfT,.int .i64 cfN]
 | 5=>q=.pointer (some ⟨cb,2,none⟩)
 | 6=>q=.int .i64 cfL
 | 7=>q=.int .i64 q1
 | 8=>q=.int .i64 rk
 | 9=>q=.int .i64 q2
 | 10=>q=.pointer (some ⟨cb,0,none⟩)
 | 11=>q=.int .i64 cfD
 | 12=>q=.int .i64 q3
 | 13=>q=.int .u64 sd9
 | 14=>k 20=false→(∃ ya yc,q=.slice ya nn yc∧IsS w ⟨ya,nn,yc⟩ zs)
 | 15=>True
 | 16=>True
 | 17=>True
 | 18=>q=.int .i64 ee
 | 19=>∃ b,q=.pointer (some ⟨b,0,none⟩)∧g9≤b∧b<w.heap.size∧(k 20=false→Blk 37 w b z9)
 | 20=>True
 | 21=>q=.int .i64 ee
 | _=>True
theorem ad4_region {id:Nat}{ops:Array Oper}{Q:Exit→Act→World→Prop}{a0:Act}{w0:World}{T:Type}{V:T→Value}{cs:T→Array Value}{I:T→Nat→Nat→World→Prop}(hI9:InLaw I)(cfD cfH cfL cfV cfU cfX cfT cfN rk sf sd9 q1 q2 q3:Int)(nn cb:Nat)(zs:List Int)(ee:Int)(z9:Array Value)(hlow:lowB ops=true)(hsz:ops.size=22)
  (o0:OpIn ops 0 (some 17) (.move (.tmp 0)) none []) (o1:OpIn ops 1 (some 18) (.move (.tmp 2)) none []) (o2:OpIn ops 2 (some 19) (.binOp .rem 24 (.tmp 18) (.const (.int .u64 3)) 24) none [1]) (o3:OpIn ops 3 (some 20) (.convert 24 3 (.tmp 19)) none [2]) (o4:OpIn ops 4 (some 21) (.load 23 (.tmp 4)) none []) (o5:OpIn ops 5 (some 22) (.fieldAddr 23 (.tmp 4) 2) none []) (o6:OpIn ops 6 (some 23) (.load 3 (.tmp 22)) none [5]) (o7:OpIn ops 7 (some 24) (.binOp .mul 3 (.tmp 23) (.const (.int .i64 4)) 3) none [6]) (o8:OpIn ops 8 (some 25) (.move (.tmp 0)) none []) (o9:OpIn ops 9 (some 26) (.binOp .mul 3 (.tmp 24) (.tmp 25) 3) none [7,8]) (o10:OpIn ops 10 (some 27) (.fieldAddr 23 (.tmp 4) 0) none []) (o11:OpIn ops 11 (some 28) (.load 3 (.tmp 27)) none [10]) (o12:OpIn ops 12 (some 29) (.binOp .mul 3 (.tmp 26) (.tmp 28) 3) none [9,11]) (o13:OpIn ops 13 (some 30) (.move (.tmp 2)) none []) (o14:OpIn ops 14 (some 31) (.call { callee:=.value (.func 36),args:=#[.tmp 29,.tmp 30],argTypes:=#[3,24] }) none [12,13]) (o15:OpIn ops 15 (some 32) (.call { callee:=.value (.func 38),args:=#[.tmp 17,.tmp 20,.tmp 21,.tmp 31],argTypes:=#[3,3,23,31] }) none [0,3,4,14]) (o16:OpIn ops 16 (some 16) (.move (.tmp 32)) none [15]) (o17:OpIn ops 17 (some 33) (.extract (.tmp 16) 0) none [16]) (o18:OpIn ops 18 (some 34) (.extract (.tmp 16) 1) none [16]) (o19:OpIn ops 19 (some 7) (.alloc 37) none []) (o20:OpIn ops 20 none (.store 37 (.tmp 7) (.tmp 33)) none [17,19]) (o21:OpIn ops 21 (some 8) (.assign (.tmp 34)) none [18])
  (x2:∀ w,(binOp .rem 24 (.int .u64 sd9) (.int .u64 3)).run Tryz.prog w=.ok (.int .u64 sf) w)
  (x3:∀ w,(convert 24 3 (.int .u64 sf)).run Tryz.prog w=.ok (.int .i64 sf) w)
  (x4:∀ w,Below w0.heap.size w0 w→(Instr.loadAt 23 (.pointer (some ⟨cb,0,none⟩))).run Tryz.prog w=.ok (.agg #[.int .i64 cfD,.int .i64 cfH,.int .i64 cfL,.int .i64 cfV,.int .i64 cfU,.int .i64 cfX,.int .i64 cfT,.int .i64 cfN]) w)
  (x5:∀ w,(Instr.fieldAt 23 (.pointer (some ⟨cb,0,none⟩)) 2).run Tryz.prog w=.ok (.pointer (some ⟨cb,2,none⟩)) w)
  (x6:∀ w,Below w0.heap.size w0 w→(Instr.loadAt 3 (.pointer (some ⟨cb,2,none⟩))).run Tryz.prog w=.ok (.int .i64 cfL) w)
  (x7:∀ w,(binOp .mul 3 (.int .i64 cfL) (.int .i64 4)).run Tryz.prog w=.ok (.int .i64 q1) w)
  (x9:∀ w,(binOp .mul 3 (.int .i64 q1) (.int .i64 rk)).run Tryz.prog w=.ok (.int .i64 q2) w)
  (x10:∀ w,(Instr.fieldAt 23 (.pointer (some ⟨cb,0,none⟩)) 0).run Tryz.prog w=.ok (.pointer (some ⟨cb,0,none⟩)) w)
  (x11:∀ w,Below w0.heap.size w0 w→(Instr.loadAt 3 (.pointer (some ⟨cb,0,none⟩))).run Tryz.prog w=.ok (.int .i64 cfD) w)
  (x12:∀ w,(binOp .mul 3 (.int .i64 q2) (.int .i64 cfD)).run Tryz.prog w=.ok (.int .i64 q3) w)
  (x14:∀ w,Below w0.heap.size w0 w→Calls Tryz.prog 36 #[.int .i64 q3,.int .u64 sd9] w fun e w'=>(∃ a c,e=.returned (.slice a nn c)∧IsS w' ⟨a,nn,c⟩ zs)∧Below w.heap.size w w')
  (x15:∀ w ya yc,Below w0.heap.size w0 w→IsS w ⟨ya,nn,yc⟩ zs→Calls Tryz.prog 38 #[.int .i64 rk,.int .i64 sf,.agg #[.int .i64 cfD,.int .i64 cfH,.int .i64 cfL,.int .i64 cfV,.int .i64 cfU,.int .i64 cfX,.int .i64 cfT,.int .i64 cfN],.slice ya nn yc] w fun e w'=>∃ t,e=.returned (.tuple #[V t,.int .i64 ee])∧I t w.heap.size w'.heap.size w'∧Below w.heap.size w w')
  (u0:a0.tmps.getD 0 undef=.int .i64 rk)
  (u2:a0.tmps.getD 2 undef=.int .u64 sd9)
  (u4:a0.tmps.getD 4 undef=.pointer (some ⟨cb,0,none⟩))
  (xA:∀ w,(Instr.alloc 37 true (.tuple #[])).run Tryz.prog w=.ok (.pointer (some ⟨w.heap.size,0,none⟩)) (w.alloc (.cells z9 37)))
  (xS:∀ w b t,Blk 37 w b z9→∃ w',(Instr.storeAt 37 (.pointer (some ⟨b,0,none⟩)) (V t)).run Tryz.prog w=.ok () w'∧Blk 37 w' b (cs t)∧Only b w w'∧w'.heap.size=w.heap.size)
  (hs:36≤a0.tmps.size)
  (fin:∀ a w b t lo hi,a.tmps.size=a0.tmps.size→a.defers=a0.defers→(∀ s,(∀ i,i<22→ad4D i≠some s)→a.tmps.getD s undef=a0.tmps.getD s undef)→a.tmps.getD 7 undef=.pointer (some ⟨b,0,none⟩)→a.tmps.getD 8 undef=.int .i64 ee→Below w0.heap.size w0 w→w0.heap.size≤b→w0.heap.size≤lo→hi≤w.heap.size→I t lo hi w→Blk 37 w b (cs t)→Q .normal a w):(Code.region id ops true).wp Tryz.prog Q a0 w0:=by
 have r40:∀ args w,(callFunc 36 args).run Tryz.prog w=.ok (.enter 36 args) w:=eNo Tryz.func36 (by kernel_rfl) rfl
 have r42:∀ args w,(callFunc 38 args).run Tryz.prog w=.ok (.enter 38 args) w:=eNo Tryz.func38 (by kernel_rfl) rfl
 refine wRi (by kernel_rfl) hlow (Inv 22 ad4D a0 (fun l a w=>Below w0.heap.size w0 w∧Kept2 22 ad4D a0 l a∧CX V cs I 37 ee w0.heap.size (l 15) (l 16) (l 17) (l 19) (l 20) (a.tmps.getD 32 undef) (a.tmps.getD 16 undef) (a.tmps.getD 33 undef) (a.tmps.getD 7 undef) w) (ad4F cfD cfH cfL cfV cfU cfX cfT cfN rk sf sd9 q1 q2 q3 nn cb zs ee w0.heap.size z9)) (Inv.start ⟨(Below.refl _ _).drew,kept2_start _ _ _,(fun e=>by cases e)⟩) ?_ ?_
 ·intro l i o a w ho hl hcl hdep hI
  have hi:i<22:=by rw[←hsz];exact (Array.getElem?_eq_some_iff.1 ho).1
  have ev:∀ (s:Nat),a.eval (.tmp s)=a.tmps.getD s undef:=fun _=>rfl
  have evf:∀ f,a.eval (.func f)=.func (.func f) #[] #[]:=fun _=>rfl
  have evc:∀ c:Value,a.eval (.const c)=c:=fun _=>rfl
  have inj:∀ d,ad4D i=some d→∀ j d',j<22→ad4D j=some d'→j≠i→d'≠d:=fun d hd j d' hj hd' hne e=>hne (ad4D_inj j hj i hi (by rw[hd',hd,e]) (by rw[hd'];simp))
  have kp:∀ s,(∀ i,i<22→ad4D i≠some s)→a.tmps.getD s undef=a0.tmps.getD s undef:=hI.kept
  obtain⟨hw,k2,hc⟩:Below w0.heap.size w0 w∧Kept2 22 ad4D a0 l a∧CX V cs I 37 ee w0.heap.size (l 15) (l 16) (l 17) (l 19) (l 20) (a.tmps.getD 32 undef) (a.tmps.getD 16 undef) (a.tmps.getD 33 undef) (a.tmps.getD 7 undef) w:=hI.world
  have oth:∀ j,j≠i→(l j || j==i)=l j:=fun j hj=>by rw[show (j==i)=false by simp[hj],Bool.or_false]
  have sam:(l i || i==i)=true:=by simp
  have gp:∀ (d:Nat) (v:Value) (s:Nat),d<36→(a.put (some d) v).tmps.getD s undef=if s=d then v else a.tmps.getD s undef:=fun d v s hd=>get_put a d v s (by rw[hI.size];exact Nat.lt_of_lt_of_le hd hs)
  have keep:∀ {w':World},i≠20→Below w.heap.size w w'→∀ j u,j<22→l j=true→j≠i→ad4F cfD cfH cfL cfV cfU cfX cfT cfN rk sf sd9 q1 q2 q3 nn cb zs ee w0.heap.size z9 l j u w→ad4F cfD cfH cfL cfV cfU cfX cfT cfN rk sf sd9 q1 q2 q3 nn cb zs ee w0.heap.size z9 (fun j=>l j || j==i) j u w':=by
   intro w' n6 hb j u hj _ _ hf
   unfold ad4F at hf ⊢
   dsimp only
   rw[oth 20 (fun e=>n6 e.symm)]
   rcases (show j=0∨j=1∨j=2∨j=3∨j=4∨j=5∨j=6∨j=7∨j=8∨j=9∨j=10∨j=11∨j=12∨j=13∨j=14∨j=15∨j=16∨j=17∨j=18∨j=19∨j=20∨j=21 by omega) with rfl|rfl|rfl|rfl|rfl|rfl|rfl|rfl|rfl|rfl|rfl|rfl|rfl|rfl|rfl|rfl|rfl|rfl|rfl|rfl|rfl|rfl
   ·exact hf
   ·exact hf
   ·exact hf
   ·exact hf
   ·exact hf
   ·exact hf
   ·exact hf
   ·exact hf
   ·exact hf
   ·exact hf
   ·exact hf
   ·exact hf
   ·exact hf
   ·exact hf
   ·intro e9;have h:=hf e9;obtain⟨ya,yc,h1,h2⟩:=h;exact⟨ya,yc,h1,h2.below hb⟩
   ·exact hf
   ·exact hf
   ·exact hf
   ·exact hf
   ·obtain⟨b,q1,q2,q3,q4⟩:=hf;exact⟨b,q1,q2,Nat.lt_of_lt_of_le q3 hb.size,fun e=>(q4 e).kept hb⟩
   ·exact hf
   ·exact hf
  rcases (show i=0∨i=1∨i=2∨i=3∨i=4∨i=5∨i=6∨i=7∨i=8∨i=9∨i=10∨i=11∨i=12∨i=13∨i=14∨i=15∨i=16∨i=17∨i=18∨i=19∨i=20∨i=21 by omega) with rfl|rfl|rfl|rfl|rfl|rfl|rfl|rfl|rfl|rfl|rfl|rfl|rfl|rfl|rfl|rfl|rfl|rfl|rfl|rfl|rfl|rfl
  ·obtain⟨o',e1,e2,e3,e4,e5⟩:=o0
   obtain rfl:=sOp ho e1
   have dp:=dPo e5 hdep
   have n9:l 20=false:=by
    cases e0:l 20 with
    | false=>rfl
    | true =>
     have e0':=hcl.dep' o20 e0 17 (by decide)
     have e1':=hcl.dep' o17 e0' 16 (by decide)
     have e2':=hcl.dep' o16 e1' 15 (by decide)
     have e3':=hcl.dep' o15 e2' 0 (by decide)
     rw[hl] at e3'
     cases e3'
   have U0:a.tmps.getD 0 undef=.int .i64 rk:=(kp 0 (by decide)).trans u0
   refine wVa (v:=.int .i64 rk) (w':=w) ho e4 (by simp[execOp,e3,ev,evc,U0]) ?_
   rw[e2]
   refine hI.put (by decide) (d:=17) rfl (Nat.lt_of_lt_of_le (by decide) hs) (inj 17 rfl) ?_ (rfl) (keep (by decide) (Below.refl _ _))
   refine⟨hw,k2.put rfl (by rw[hI.size];exact Nat.lt_of_lt_of_le (by decide) hs) (by decide),?_⟩
   dsimp only
   rw[gp 17 _ 32 (by decide),gp 17 _ 16 (by decide),gp 17 _ 33 (by decide),gp 17 _ 7 (by decide)]
   simp only[oth 15 (by decide),oth 16 (by decide),oth 17 (by decide),oth 19 (by decide),oth 20 (by decide)]
   exact hc
  ·obtain⟨o',e1,e2,e3,e4,e5⟩:=o1
   obtain rfl:=sOp ho e1
   have dp:=dPo e5 hdep
   have n9:l 20=false:=by
    cases e0:l 20 with
    | false=>rfl
    | true =>
     have e0':=hcl.dep' o20 e0 17 (by decide)
     have e1':=hcl.dep' o17 e0' 16 (by decide)
     have e2':=hcl.dep' o16 e1' 15 (by decide)
     have e3':=hcl.dep' o15 e2' 3 (by decide)
     have e4':=hcl.dep' o3 e3' 2 (by decide)
     have e5':=hcl.dep' o2 e4' 1 (by decide)
     rw[hl] at e5'
     cases e5'
   have U2:a.tmps.getD 2 undef=.int .u64 sd9:=(kp 2 (by decide)).trans u2
   refine wVa (v:=.int .u64 sd9) (w':=w) ho e4 (by simp[execOp,e3,ev,evc,U2]) ?_
   rw[e2]
   refine hI.put (by decide) (d:=18) rfl (Nat.lt_of_lt_of_le (by decide) hs) (inj 18 rfl) ?_ (rfl) (keep (by decide) (Below.refl _ _))
   refine⟨hw,k2.put rfl (by rw[hI.size];exact Nat.lt_of_lt_of_le (by decide) hs) (by decide),?_⟩
   dsimp only
   rw[gp 18 _ 32 (by decide),gp 18 _ 16 (by decide),gp 18 _ 33 (by decide),gp 18 _ 7 (by decide)]
   simp only[oth 15 (by decide),oth 16 (by decide),oth 17 (by decide),oth 19 (by decide),oth 20 (by decide)]
   exact hc
  ·obtain⟨o',e1,e2,e3,e4,e5⟩:=o2
   obtain rfl:=sOp ho e1
   have dp:=dPo e5 hdep
   have n9:l 20=false:=by
    cases e0:l 20 with
    | false=>rfl
    | true =>
     have e0':=hcl.dep' o20 e0 17 (by decide)
     have e1':=hcl.dep' o17 e0' 16 (by decide)
     have e2':=hcl.dep' o16 e1' 15 (by decide)
     have e3':=hcl.dep' o15 e2' 3 (by decide)
     have e4':=hcl.dep' o3 e3' 2 (by decide)
     rw[hl] at e4'
     cases e4'
   have V1:a.tmps.getD 18 undef=.int .u64 sd9:=hI.val 1 18 (by decide) rfl (dp 1 (by decide))
   refine wVa (v:=.int .u64 sf) (w':=w) ho e4 (by simp[execOp,e3,ev,evc,V1,x2 w,eqGuard]) ?_
   rw[e2]
   refine hI.put (by decide) (d:=19) rfl (Nat.lt_of_lt_of_le (by decide) hs) (inj 19 rfl) ?_ (rfl) (keep (by decide) (Below.refl _ _))
   refine⟨hw,k2.put rfl (by rw[hI.size];exact Nat.lt_of_lt_of_le (by decide) hs) (by decide),?_⟩
   dsimp only
   rw[gp 19 _ 32 (by decide),gp 19 _ 16 (by decide),gp 19 _ 33 (by decide),gp 19 _ 7 (by decide)]
   simp only[oth 15 (by decide),oth 16 (by decide),oth 17 (by decide),oth 19 (by decide),oth 20 (by decide)]
   exact hc
  ·obtain⟨o',e1,e2,e3,e4,e5⟩:=o3
   obtain rfl:=sOp ho e1
   have dp:=dPo e5 hdep
   have n9:l 20=false:=by
    cases e0:l 20 with
    | false=>rfl
    | true =>
     have e0':=hcl.dep' o20 e0 17 (by decide)
     have e1':=hcl.dep' o17 e0' 16 (by decide)
     have e2':=hcl.dep' o16 e1' 15 (by decide)
     have e3':=hcl.dep' o15 e2' 3 (by decide)
     rw[hl] at e3'
     cases e3'
   have V2:a.tmps.getD 19 undef=.int .u64 sf:=hI.val 2 19 (by decide) rfl (dp 2 (by decide))
   refine wVa (v:=.int .i64 sf) (w':=w) ho e4 (by simp[execOp,e3,ev,evc,V2,x3 w]) ?_
   rw[e2]
   refine hI.put (by decide) (d:=20) rfl (Nat.lt_of_lt_of_le (by decide) hs) (inj 20 rfl) ?_ (rfl) (keep (by decide) (Below.refl _ _))
   refine⟨hw,k2.put rfl (by rw[hI.size];exact Nat.lt_of_lt_of_le (by decide) hs) (by decide),?_⟩
   dsimp only
   rw[gp 20 _ 32 (by decide),gp 20 _ 16 (by decide),gp 20 _ 33 (by decide),gp 20 _ 7 (by decide)]
   simp only[oth 15 (by decide),oth 16 (by decide),oth 17 (by decide),oth 19 (by decide),oth 20 (by decide)]
   exact hc
  ·obtain⟨o',e1,e2,e3,e4,e5⟩:=o4
   obtain rfl:=sOp ho e1
   have dp:=dPo e5 hdep
   have n9:l 20=false:=by
    cases e0:l 20 with
    | false=>rfl
    | true =>
     have e0':=hcl.dep' o20 e0 17 (by decide)
     have e1':=hcl.dep' o17 e0' 16 (by decide)
     have e2':=hcl.dep' o16 e1' 15 (by decide)
     have e3':=hcl.dep' o15 e2' 4 (by decide)
     rw[hl] at e3'
     cases e3'
   have U4:a.tmps.getD 4 undef=.pointer (some ⟨cb,0,none⟩):=(kp 4 (by decide)).trans u4
   refine wVa (v:=.agg #[.int .i64 cfD,.int .i64 cfH,.int .i64 cfL,.int .i64 cfV,.int .i64 cfU,.int .i64 cfX,.int .i64 cfT,.int .i64 cfN]) (w':=w) ho e4 (by simp[execOp,e3,ev,evc,U4,x4 w hw]) ?_
   rw[e2]
   refine hI.put (by decide) (d:=21) rfl (Nat.lt_of_lt_of_le (by decide) hs) (inj 21 rfl) ?_ (rfl) (keep (by decide) (Below.refl _ _))
   refine⟨hw,k2.put rfl (by rw[hI.size];exact Nat.lt_of_lt_of_le (by decide) hs) (by decide),?_⟩
   dsimp only
   rw[gp 21 _ 32 (by decide),gp 21 _ 16 (by decide),gp 21 _ 33 (by decide),gp 21 _ 7 (by decide)]
   simp only[oth 15 (by decide),oth 16 (by decide),oth 17 (by decide),oth 19 (by decide),oth 20 (by decide)]
   exact hc
  ·obtain⟨o',e1,e2,e3,e4,e5⟩:=o5
   obtain rfl:=sOp ho e1
   have dp:=dPo e5 hdep
   have n9:l 20=false:=by
    cases e0:l 20 with
    | false=>rfl
    | true =>
     have e0':=hcl.dep' o20 e0 17 (by decide)
     have e1':=hcl.dep' o17 e0' 16 (by decide)
     have e2':=hcl.dep' o16 e1' 15 (by decide)
     have e3':=hcl.dep' o15 e2' 14 (by decide)
     have e4':=hcl.dep' o14 e3' 12 (by decide)
     have e5':=hcl.dep' o12 e4' 9 (by decide)
     have e6':=hcl.dep' o9 e5' 7 (by decide)
     have e7':=hcl.dep' o7 e6' 6 (by decide)
     have e8':=hcl.dep' o6 e7' 5 (by decide)
     rw[hl] at e8'
     cases e8'
   have U4:a.tmps.getD 4 undef=.pointer (some ⟨cb,0,none⟩):=(kp 4 (by decide)).trans u4
   refine wVa (v:=.pointer (some ⟨cb,2,none⟩)) (w':=w) ho e4 (by simp[execOp,e3,ev,evc,U4,x5 w]) ?_
   rw[e2]
   refine hI.put (by decide) (d:=22) rfl (Nat.lt_of_lt_of_le (by decide) hs) (inj 22 rfl) ?_ (rfl) (keep (by decide) (Below.refl _ _))
   refine⟨hw,k2.put rfl (by rw[hI.size];exact Nat.lt_of_lt_of_le (by decide) hs) (by decide),?_⟩
   dsimp only
   rw[gp 22 _ 32 (by decide),gp 22 _ 16 (by decide),gp 22 _ 33 (by decide),gp 22 _ 7 (by decide)]
   simp only[oth 15 (by decide),oth 16 (by decide),oth 17 (by decide),oth 19 (by decide),oth 20 (by decide)]
   exact hc
  ·obtain⟨o',e1,e2,e3,e4,e5⟩:=o6
   obtain rfl:=sOp ho e1
   have dp:=dPo e5 hdep
   have n9:l 20=false:=by
    cases e0:l 20 with
    | false=>rfl
    | true =>
     have e0':=hcl.dep' o20 e0 17 (by decide)
     have e1':=hcl.dep' o17 e0' 16 (by decide)
     have e2':=hcl.dep' o16 e1' 15 (by decide)
     have e3':=hcl.dep' o15 e2' 14 (by decide)
     have e4':=hcl.dep' o14 e3' 12 (by decide)
     have e5':=hcl.dep' o12 e4' 9 (by decide)
     have e6':=hcl.dep' o9 e5' 7 (by decide)
     have e7':=hcl.dep' o7 e6' 6 (by decide)
     rw[hl] at e7'
     cases e7'
   have V5:a.tmps.getD 22 undef=.pointer (some ⟨cb,2,none⟩):=hI.val 5 22 (by decide) rfl (dp 5 (by decide))
   refine wVa (v:=.int .i64 cfL) (w':=w) ho e4 (by simp[execOp,e3,ev,evc,V5,x6 w hw]) ?_
   rw[e2]
   refine hI.put (by decide) (d:=23) rfl (Nat.lt_of_lt_of_le (by decide) hs) (inj 23 rfl) ?_ (rfl) (keep (by decide) (Below.refl _ _))
   refine⟨hw,k2.put rfl (by rw[hI.size];exact Nat.lt_of_lt_of_le (by decide) hs) (by decide),?_⟩
   dsimp only
   rw[gp 23 _ 32 (by decide),gp 23 _ 16 (by decide),gp 23 _ 33 (by decide),gp 23 _ 7 (by decide)]
   simp only[oth 15 (by decide),oth 16 (by decide),oth 17 (by decide),oth 19 (by decide),oth 20 (by decide)]
   exact hc
  ·obtain⟨o',e1,e2,e3,e4,e5⟩:=o7
   obtain rfl:=sOp ho e1
   have dp:=dPo e5 hdep
   have n9:l 20=false:=by
    cases e0:l 20 with
    | false=>rfl
    | true =>
     have e0':=hcl.dep' o20 e0 17 (by decide)
     have e1':=hcl.dep' o17 e0' 16 (by decide)
     have e2':=hcl.dep' o16 e1' 15 (by decide)
     have e3':=hcl.dep' o15 e2' 14 (by decide)
     have e4':=hcl.dep' o14 e3' 12 (by decide)
     have e5':=hcl.dep' o12 e4' 9 (by decide)
     have e6':=hcl.dep' o9 e5' 7 (by decide)
     rw[hl] at e6'
     cases e6'
   have V6:a.tmps.getD 23 undef=.int .i64 cfL:=hI.val 6 23 (by decide) rfl (dp 6 (by decide))
   refine wVa (v:=.int .i64 q1) (w':=w) ho e4 (by simp[execOp,e3,ev,evc,V6,x7 w,eqGuard]) ?_
   rw[e2]
   refine hI.put (by decide) (d:=24) rfl (Nat.lt_of_lt_of_le (by decide) hs) (inj 24 rfl) ?_ (rfl) (keep (by decide) (Below.refl _ _))
   refine⟨hw,k2.put rfl (by rw[hI.size];exact Nat.lt_of_lt_of_le (by decide) hs) (by decide),?_⟩
   dsimp only
   rw[gp 24 _ 32 (by decide),gp 24 _ 16 (by decide),gp 24 _ 33 (by decide),gp 24 _ 7 (by decide)]
   simp only[oth 15 (by decide),oth 16 (by decide),oth 17 (by decide),oth 19 (by decide),oth 20 (by decide)]
   exact hc
  ·obtain⟨o',e1,e2,e3,e4,e5⟩:=o8
   obtain rfl:=sOp ho e1
   have dp:=dPo e5 hdep
   have n9:l 20=false:=by
    cases e0:l 20 with
    | false=>rfl
    | true =>
     have e0':=hcl.dep' o20 e0 17 (by decide)
     have e1':=hcl.dep' o17 e0' 16 (by decide)
     have e2':=hcl.dep' o16 e1' 15 (by decide)
     have e3':=hcl.dep' o15 e2' 14 (by decide)
     have e4':=hcl.dep' o14 e3' 12 (by decide)
     have e5':=hcl.dep' o12 e4' 9 (by decide)
     have e6':=hcl.dep' o9 e5' 8 (by decide)
     rw[hl] at e6'
     cases e6'
   have U0:a.tmps.getD 0 undef=.int .i64 rk:=(kp 0 (by decide)).trans u0
   refine wVa (v:=.int .i64 rk) (w':=w) ho e4 (by simp[execOp,e3,ev,evc,U0]) ?_
   rw[e2]
   refine hI.put (by decide) (d:=25) rfl (Nat.lt_of_lt_of_le (by decide) hs) (inj 25 rfl) ?_ (rfl) (keep (by decide) (Below.refl _ _))
   refine⟨hw,k2.put rfl (by rw[hI.size];exact Nat.lt_of_lt_of_le (by decide) hs) (by decide),?_⟩
   dsimp only
   rw[gp 25 _ 32 (by decide),gp 25 _ 16 (by decide),gp 25 _ 33 (by decide),gp 25 _ 7 (by decide)]
   simp only[oth 15 (by decide),oth 16 (by decide),oth 17 (by decide),oth 19 (by decide),oth 20 (by decide)]
   exact hc
  ·obtain⟨o',e1,e2,e3,e4,e5⟩:=o9
   obtain rfl:=sOp ho e1
   have dp:=dPo e5 hdep
   have n9:l 20=false:=by
    cases e0:l 20 with
    | false=>rfl
    | true =>
     have e0':=hcl.dep' o20 e0 17 (by decide)
     have e1':=hcl.dep' o17 e0' 16 (by decide)
     have e2':=hcl.dep' o16 e1' 15 (by decide)
     have e3':=hcl.dep' o15 e2' 14 (by decide)
     have e4':=hcl.dep' o14 e3' 12 (by decide)
     have e5':=hcl.dep' o12 e4' 9 (by decide)
     rw[hl] at e5'
     cases e5'
   have V7:a.tmps.getD 24 undef=.int .i64 q1:=hI.val 7 24 (by decide) rfl (dp 7 (by decide))
   have V8:a.tmps.getD 25 undef=.int .i64 rk:=hI.val 8 25 (by decide) rfl (dp 8 (by decide))
   refine wVa (v:=.int .i64 q2) (w':=w) ho e4 (by simp[execOp,e3,ev,evc,V7,V8,x9 w,eqGuard]) ?_
   rw[e2]
   refine hI.put (by decide) (d:=26) rfl (Nat.lt_of_lt_of_le (by decide) hs) (inj 26 rfl) ?_ (rfl) (keep (by decide) (Below.refl _ _))
   refine⟨hw,k2.put rfl (by rw[hI.size];exact Nat.lt_of_lt_of_le (by decide) hs) (by decide),?_⟩
   dsimp only
   rw[gp 26 _ 32 (by decide),gp 26 _ 16 (by decide),gp 26 _ 33 (by decide),gp 26 _ 7 (by decide)]
   simp only[oth 15 (by decide),oth 16 (by decide),oth 17 (by decide),oth 19 (by decide),oth 20 (by decide)]
   exact hc
  ·obtain⟨o',e1,e2,e3,e4,e5⟩:=o10
   obtain rfl:=sOp ho e1
   have dp:=dPo e5 hdep
   have n9:l 20=false:=by
    cases e0:l 20 with
    | false=>rfl
    | true =>
     have e0':=hcl.dep' o20 e0 17 (by decide)
     have e1':=hcl.dep' o17 e0' 16 (by decide)
     have e2':=hcl.dep' o16 e1' 15 (by decide)
     have e3':=hcl.dep' o15 e2' 14 (by decide)
     have e4':=hcl.dep' o14 e3' 12 (by decide)
     have e5':=hcl.dep' o12 e4' 11 (by decide)
     have e6':=hcl.dep' o11 e5' 10 (by decide)
     rw[hl] at e6'
     cases e6'
   have U4:a.tmps.getD 4 undef=.pointer (some ⟨cb,0,none⟩):=(kp 4 (by decide)).trans u4
   refine wVa (v:=.pointer (some ⟨cb,0,none⟩)) (w':=w) ho e4 (by simp[execOp,e3,ev,evc,U4,x10 w]) ?_
   rw[e2]
   refine hI.put (by decide) (d:=27) rfl (Nat.lt_of_lt_of_le (by decide) hs) (inj 27 rfl) ?_ (rfl) (keep (by decide) (Below.refl _ _))
   refine⟨hw,k2.put rfl (by rw[hI.size];exact Nat.lt_of_lt_of_le (by decide) hs) (by decide),?_⟩
   dsimp only
   rw[gp 27 _ 32 (by decide),gp 27 _ 16 (by decide),gp 27 _ 33 (by decide),gp 27 _ 7 (by decide)]
   simp only[oth 15 (by decide),oth 16 (by decide),oth 17 (by decide),oth 19 (by decide),oth 20 (by decide)]
   exact hc
  ·obtain⟨o',e1,e2,e3,e4,e5⟩:=o11
   obtain rfl:=sOp ho e1
   have dp:=dPo e5 hdep
   have n9:l 20=false:=by
    cases e0:l 20 with
    | false=>rfl
    | true =>
     have e0':=hcl.dep' o20 e0 17 (by decide)
     have e1':=hcl.dep' o17 e0' 16 (by decide)
     have e2':=hcl.dep' o16 e1' 15 (by decide)
     have e3':=hcl.dep' o15 e2' 14 (by decide)
     have e4':=hcl.dep' o14 e3' 12 (by decide)
     have e5':=hcl.dep' o12 e4' 11 (by decide)
     rw[hl] at e5'
     cases e5'
   have V10:a.tmps.getD 27 undef=.pointer (some ⟨cb,0,none⟩):=hI.val 10 27 (by decide) rfl (dp 10 (by decide))
   refine wVa (v:=.int .i64 cfD) (w':=w) ho e4 (by simp[execOp,e3,ev,evc,V10,x11 w hw]) ?_
   rw[e2]
   refine hI.put (by decide) (d:=28) rfl (Nat.lt_of_lt_of_le (by decide) hs) (inj 28 rfl) ?_ (rfl) (keep (by decide) (Below.refl _ _))
   refine⟨hw,k2.put rfl (by rw[hI.size];exact Nat.lt_of_lt_of_le (by decide) hs) (by decide),?_⟩
   dsimp only
   rw[gp 28 _ 32 (by decide),gp 28 _ 16 (by decide),gp 28 _ 33 (by decide),gp 28 _ 7 (by decide)]
   simp only[oth 15 (by decide),oth 16 (by decide),oth 17 (by decide),oth 19 (by decide),oth 20 (by decide)]
   exact hc
  ·obtain⟨o',e1,e2,e3,e4,e5⟩:=o12
   obtain rfl:=sOp ho e1
   have dp:=dPo e5 hdep
   have n9:l 20=false:=by
    cases e0:l 20 with
    | false=>rfl
    | true =>
     have e0':=hcl.dep' o20 e0 17 (by decide)
     have e1':=hcl.dep' o17 e0' 16 (by decide)
     have e2':=hcl.dep' o16 e1' 15 (by decide)
     have e3':=hcl.dep' o15 e2' 14 (by decide)
     have e4':=hcl.dep' o14 e3' 12 (by decide)
     rw[hl] at e4'
     cases e4'
   have V9:a.tmps.getD 26 undef=.int .i64 q2:=hI.val 9 26 (by decide) rfl (dp 9 (by decide))
   have V11:a.tmps.getD 28 undef=.int .i64 cfD:=hI.val 11 28 (by decide) rfl (dp 11 (by decide))
   refine wVa (v:=.int .i64 q3) (w':=w) ho e4 (by simp[execOp,e3,ev,evc,V9,V11,x12 w,eqGuard]) ?_
   rw[e2]
   refine hI.put (by decide) (d:=29) rfl (Nat.lt_of_lt_of_le (by decide) hs) (inj 29 rfl) ?_ (rfl) (keep (by decide) (Below.refl _ _))
   refine⟨hw,k2.put rfl (by rw[hI.size];exact Nat.lt_of_lt_of_le (by decide) hs) (by decide),?_⟩
   dsimp only
   rw[gp 29 _ 32 (by decide),gp 29 _ 16 (by decide),gp 29 _ 33 (by decide),gp 29 _ 7 (by decide)]
   simp only[oth 15 (by decide),oth 16 (by decide),oth 17 (by decide),oth 19 (by decide),oth 20 (by decide)]
   exact hc
  ·obtain⟨o',e1,e2,e3,e4,e5⟩:=o13
   obtain rfl:=sOp ho e1
   have dp:=dPo e5 hdep
   have n9:l 20=false:=by
    cases e0:l 20 with
    | false=>rfl
    | true =>
     have e0':=hcl.dep' o20 e0 17 (by decide)
     have e1':=hcl.dep' o17 e0' 16 (by decide)
     have e2':=hcl.dep' o16 e1' 15 (by decide)
     have e3':=hcl.dep' o15 e2' 14 (by decide)
     have e4':=hcl.dep' o14 e3' 13 (by decide)
     rw[hl] at e4'
     cases e4'
   have U2:a.tmps.getD 2 undef=.int .u64 sd9:=(kp 2 (by decide)).trans u2
   refine wVa (v:=.int .u64 sd9) (w':=w) ho e4 (by simp[execOp,e3,ev,evc,U2]) ?_
   rw[e2]
   refine hI.put (by decide) (d:=30) rfl (Nat.lt_of_lt_of_le (by decide) hs) (inj 30 rfl) ?_ (rfl) (keep (by decide) (Below.refl _ _))
   refine⟨hw,k2.put rfl (by rw[hI.size];exact Nat.lt_of_lt_of_le (by decide) hs) (by decide),?_⟩
   dsimp only
   rw[gp 30 _ 32 (by decide),gp 30 _ 16 (by decide),gp 30 _ 33 (by decide),gp 30 _ 7 (by decide)]
   simp only[oth 15 (by decide),oth 16 (by decide),oth 17 (by decide),oth 19 (by decide),oth 20 (by decide)]
   exact hc
  ·obtain⟨o',e1,e2,e3,e4,e5⟩:=o14
   obtain rfl:=sOp ho e1
   have dp:=dPo e5 hdep
   have n9:l 20=false:=by
    cases e0:l 20 with
    | false=>rfl
    | true =>
     have e0':=hcl.dep' o20 e0 17 (by decide)
     have e1':=hcl.dep' o17 e0' 16 (by decide)
     have e2':=hcl.dep' o16 e1' 15 (by decide)
     have e3':=hcl.dep' o15 e2' 14 (by decide)
     rw[hl] at e3'
     cases e3'
   have V12:a.tmps.getD 29 undef=.int .i64 q3:=hI.val 12 29 (by decide) rfl (dp 12 (by decide))
   have V13:a.tmps.getD 30 undef=.int .u64 sd9:=hI.val 13 30 (by decide) rfl (dp 13 (by decide))
   refine wCa (f:=36) (args:=#[.int .i64 q3,.int .u64 sd9]) ho e4 (by simp[execOp,e3,resolve,invoke,Deferred.ofValue,r40,ev,evf,evc,V12,V13]) ((x14 w hw).mono ?_)
   rintro e W ⟨⟨a6,c6,rfl,f6⟩,hb6⟩
   refine⟨_,rfl,?_⟩
   rw[e2]
   refine hI.put (by decide) (d:=31) rfl (Nat.lt_of_lt_of_le (by decide) hs) (inj 31 rfl) ?_ (fun _=>⟨a6,c6,rfl,f6⟩) (keep (by decide) (hb6))
   refine⟨bTn hw (hb6),k2.put rfl (by rw[hI.size];exact Nat.lt_of_lt_of_le (by decide) hs) (by decide),?_⟩
   dsimp only
   rw[gp 31 _ 32 (by decide),gp 31 _ 16 (by decide),gp 31 _ 33 (by decide),gp 31 _ 7 (by decide)]
   simp only[oth 15 (by decide),oth 16 (by decide),oth 17 (by decide),oth 19 (by decide),oth 20 (by decide)]
   exact hc.below hI9 hb6
  ·obtain⟨o',e1,e2,e3,e4,e5⟩:=o15
   obtain rfl:=sOp ho e1
   have dp:=dPo e5 hdep
   have n9:l 20=false:=by
    cases e0:l 20 with
    | false=>rfl
    | true =>
     have e0':=hcl.dep' o20 e0 17 (by decide)
     have e1':=hcl.dep' o17 e0' 16 (by decide)
     have e2':=hcl.dep' o16 e1' 15 (by decide)
     rw[hl] at e2'
     cases e2'
   have V0:a.tmps.getD 17 undef=.int .i64 rk:=hI.val 0 17 (by decide) rfl (dp 0 (by decide))
   have V3:a.tmps.getD 20 undef=.int .i64 sf:=hI.val 3 20 (by decide) rfl (dp 3 (by decide))
   have V4:a.tmps.getD 21 undef=.agg #[.int .i64 cfD,.int .i64 cfH,.int .i64 cfL,.int .i64 cfV,.int .i64 cfU,.int .i64 cfX,.int .i64 cfT,.int .i64 cfN]:=hI.val 4 21 (by decide) rfl (dp 4 (by decide))
   obtain⟨a14,c14,V14,f14⟩:∃ ya yc,a.tmps.getD 31 undef=.slice ya nn yc∧IsS w ⟨ya,nn,yc⟩ zs:=hI.val 14 31 (by decide) rfl (dp 14 (by decide)) n9
   refine wCa (f:=38) (args:=#[.int .i64 rk,.int .i64 sf,.agg #[.int .i64 cfD,.int .i64 cfH,.int .i64 cfL,.int .i64 cfV,.int .i64 cfU,.int .i64 cfX,.int .i64 cfT,.int .i64 cfN],.slice a14 nn c14]) ho e4 (by simp[execOp,e3,resolve,invoke,Deferred.ofValue,r42,ev,evf,evc,V0,V3,V4,V14]) ((x15 w a14 c14 hw f14).mono ?_)
   rintro e W ⟨t,rfl,ht,hb⟩
   refine⟨_,rfl,?_⟩
   rw[e2]
   refine hI.put (by decide) (d:=32) rfl (Nat.lt_of_lt_of_le (by decide) hs) (inj 32 rfl) ?_ (trivial) (keep (by decide) (hb))
   refine⟨bTn hw (hb),k2.put rfl (by rw[hI.size];exact Nat.lt_of_lt_of_le (by decide) hs) (by decide),?_⟩
   dsimp only
   rw[gp 32 _ 32 (by decide),gp 32 _ 16 (by decide),gp 32 _ 33 (by decide),gp 32 _ 7 (by decide)]
   simp only[oth 16 (by decide),oth 17 (by decide),oth 19 (by decide),oth 20 (by decide),sam]
   exact fun _=>⟨t,w.heap.size,W.heap.size,rfl,(fun e9=>by
     have y:=hcl.dep' o16 e9 15 (by decide)
     rw[hl] at y
     cases y),(fun e9=>by
     have y:=hcl.dep' o16 (hcl.dep' o17 e9 16 (by decide)) 15 (by decide)
     rw[hl] at y
     cases y),hw.size,Nat.le_refl _,ht,(fun e9 b eb=>by
     obtain⟨b2,p1,p2,p3,p4⟩:∃ b,a.tmps.getD 7 undef=.pointer (some ⟨b,0,none⟩)∧w0.heap.size≤b∧b<w.heap.size∧(l 20=false→Blk 37 w b z9):=hI.val 19 7 (by decide) rfl e9
     have:=p1.symm.trans eb
     simp at this
     omega),(fun e9=>by rw[n9] at e9;cases e9)⟩
  ·obtain⟨o',e1,e2,e3,e4,e5⟩:=o16
   obtain rfl:=sOp ho e1
   have dp:=dPo e5 hdep
   have n9:l 20=false:=by
    cases e0:l 20 with
    | false=>rfl
    | true =>
     have e0':=hcl.dep' o20 e0 17 (by decide)
     have e1':=hcl.dep' o17 e0' 16 (by decide)
     rw[hl] at e1'
     cases e1'
   obtain⟨t,lo,hh,Vc,h2,h3,h4,h5,h6,h7,h8⟩:=hc (dp 15 (by decide))
   refine wVa (v:=.tuple #[V t,.int .i64 ee]) (w':=w) ho e4 (by simp[execOp,e3,ev,evc,Vc]) ?_
   rw[e2]
   refine hI.put (by decide) (d:=16) rfl (Nat.lt_of_lt_of_le (by decide) hs) (inj 16 rfl) ?_ (trivial) (keep (by decide) (Below.refl _ _))
   refine⟨hw,k2.put rfl (by rw[hI.size];exact Nat.lt_of_lt_of_le (by decide) hs) (by decide),?_⟩
   dsimp only
   rw[gp 16 _ 32 (by decide),gp 16 _ 16 (by decide),gp 16 _ 33 (by decide),gp 16 _ 7 (by decide)]
   simp only[oth 15 (by decide),oth 17 (by decide),oth 19 (by decide),oth 20 (by decide),sam]
   rw[dp 15 (by decide)] at hc ⊢
   rw[←Vc]
   exact hc.moved
  ·obtain⟨o',e1,e2,e3,e4,e5⟩:=o17
   obtain rfl:=sOp ho e1
   have dp:=dPo e5 hdep
   have n9:l 20=false:=by
    cases e0:l 20 with
    | false=>rfl
    | true =>
     have e0':=hcl.dep' o20 e0 17 (by decide)
     rw[hl] at e0'
     cases e0'
   obtain⟨t,lo,hh,Vc,h2,h3,h4,h5,h6,h7,h8⟩:=hc (hcl.dep' o16 (dp 16 (by decide)) 15 (by decide))
   have Vm:=h2 (dp 16 (by decide))
   refine wVa (v:=V t) (w':=w) ho e4 (by simp[execOp,e3,ev,evc,Vm,Instr.extract]) ?_
   rw[e2]
   refine hI.put (by decide) (d:=33) rfl (Nat.lt_of_lt_of_le (by decide) hs) (inj 33 rfl) ?_ (trivial) (keep (by decide) (Below.refl _ _))
   refine⟨hw,k2.put rfl (by rw[hI.size];exact Nat.lt_of_lt_of_le (by decide) hs) (by decide),?_⟩
   dsimp only
   rw[gp 33 _ 32 (by decide),gp 33 _ 16 (by decide),gp 33 _ 33 (by decide),gp 33 _ 7 (by decide)]
   simp only[oth 15 (by decide),oth 16 (by decide),oth 19 (by decide),oth 20 (by decide),sam]
   exact fun _=>⟨t,lo,hh,Vc,h2,fun _=>rfl,h4,h5,h6,h7,h8⟩
  ·obtain⟨o',e1,e2,e3,e4,e5⟩:=o18
   obtain rfl:=sOp ho e1
   have dp:=dPo e5 hdep
   obtain⟨t,lo,hh,Vc,h2,h3,h4,h5,h6,h7,h8⟩:=hc (hcl.dep' o16 (dp 16 (by decide)) 15 (by decide))
   have Vm:=h2 (dp 16 (by decide))
   refine wVa (v:=.int .i64 ee) (w':=w) ho e4 (by simp[execOp,e3,ev,evc,Vm,Instr.extract]) ?_
   rw[e2]
   refine hI.put (by decide) (d:=34) rfl (Nat.lt_of_lt_of_le (by decide) hs) (inj 34 rfl) ?_ (rfl) (keep (by decide) (Below.refl _ _))
   refine⟨hw,k2.put rfl (by rw[hI.size];exact Nat.lt_of_lt_of_le (by decide) hs) (by decide),?_⟩
   dsimp only
   rw[gp 34 _ 32 (by decide),gp 34 _ 16 (by decide),gp 34 _ 33 (by decide),gp 34 _ 7 (by decide)]
   simp only[oth 15 (by decide),oth 16 (by decide),oth 17 (by decide),oth 19 (by decide),oth 20 (by decide)]
   exact hc
  ·obtain⟨o',e1,e2,e3,e4,e5⟩:=o19
   obtain rfl:=sOp ho e1
   have dp:=dPo e5 hdep
   have n9:l 20=false:=by
    cases e0:l 20 with
    | false=>rfl
    | true =>
     have e0':=hcl.dep' o20 e0 19 (by decide)
     rw[hl] at e0'
     cases e0'
   have hb:=bNw (Below.refl w.heap.size w) (.cells z9 37)
   refine wVa (v:=.pointer (some ⟨w.heap.size,0,none⟩)) (w':=w.alloc (.cells z9 37)) ho e4 (by simp[execOp,e3,xA]) ?_
   rw[e2]
   refine hI.put (by decide) (d:=7) rfl (Nat.lt_of_lt_of_le (by decide) hs) (inj 7 rfl) ?_ (⟨w.heap.size,rfl,hw.size,by simp,fun _=>Blk.new 37 w _⟩) (keep (by decide) (hb))
   refine⟨bTn hw (hb),k2.put rfl (by rw[hI.size];exact Nat.lt_of_lt_of_le (by decide) hs) (by decide),?_⟩
   dsimp only
   rw[gp 7 _ 32 (by decide),gp 7 _ 16 (by decide),gp 7 _ 33 (by decide),gp 7 _ 7 (by decide)]
   simp only[oth 15 (by decide),oth 16 (by decide),oth 17 (by decide),oth 20 (by decide),sam]
   rw[n9] at hc ⊢
   exact hc.lay hI9 _
  ·obtain⟨o',e1,e2,e3,e4,e5⟩:=o20
   obtain rfl:=sOp ho e1
   have dp:=dPo e5 hdep
   obtain⟨b,Va,gb,lb,q⟩:∃ b,a.tmps.getD 7 undef=.pointer (some ⟨b,0,none⟩)∧w0.heap.size≤b∧b<w.heap.size∧(l 20=false→Blk 37 w b z9):=hI.val 19 7 (by decide) rfl (dp 19 (by decide))
   replace q:=q hl
   obtain⟨t,lo,hh,Vc,h2,h3,h4,h5,h6,h7,h8⟩:=hc (hcl.dep' o16 (hcl.dep' o17 (dp 17 (by decide)) 16 (by decide)) 15 (by decide))
   have Vx:=h3 (dp 17 (by decide))
   obtain⟨w',r',q',on,hz⟩:=xS w b t q
   have hb9:Below w0.heap.size w0 w':=Only.below hw gb hw.size on
   refine wSk (w':=w') ho e4 (by simp[execOp,e3,ev,Va,Vx,r']) ?_
   rw[e2]
   refine Inv.none_' hI rfl ⟨hb9,fun s9 hs9=>k2 s9 (fun j hj hl9=>hs9 j hj (by simp[hl9])),?_⟩ (fun j dd hj hD hkj hne hf=>?_)
   ·dsimp only
    simp only[oth 15 (by decide),oth 16 (by decide),oth 17 (by decide),oth 19 (by decide),sam]
    exact fun _=>⟨t,lo,hh,Vc,h2,h3,h4,(by omega),hI9.only h6 on (h7 (dp 19 (by decide)) b Va),h7,fun _=>⟨b,Va,gb,q'⟩⟩
   ·unfold ad4F at hf ⊢
    dsimp only
    rw[sam]
    rcases (show j=0∨j=1∨j=2∨j=3∨j=4∨j=5∨j=6∨j=7∨j=8∨j=9∨j=10∨j=11∨j=12∨j=13∨j=14∨j=15∨j=16∨j=17∨j=18∨j=19∨j=20∨j=21 by omega) with rfl|rfl|rfl|rfl|rfl|rfl|rfl|rfl|rfl|rfl|rfl|rfl|rfl|rfl|rfl|rfl|rfl|rfl|rfl|rfl|rfl|rfl
    ·exact hf
    ·exact hf
    ·exact hf
    ·exact hf
    ·exact hf
    ·exact hf
    ·exact hf
    ·exact hf
    ·exact hf
    ·exact hf
    ·exact hf
    ·exact hf
    ·exact hf
    ·exact hf
    ·intro e9;cases e9
    ·exact hf
    ·exact hf
    ·exact hf
    ·exact hf
    ·obtain⟨b2,p1,p2,p3,p4⟩:=hf;exact⟨b2,p1,p2,by omega,fun e=>by cases e⟩
    ·exact hf
    ·exact hf
  ·obtain⟨o',e1,e2,e3,e4,e5⟩:=o21
   obtain rfl:=sOp ho e1
   have dp:=dPo e5 hdep
   have V9:a.tmps.getD 34 undef=.int .i64 ee:=hI.val 18 34 (by decide) rfl (dp 18 (by decide))
   refine wVa (v:=.int .i64 ee) (w':=w) ho e4 (by simp[execOp,e3,ev,evc,V9]) ?_
   rw[e2]
   refine hI.put (by decide) (d:=8) rfl (Nat.lt_of_lt_of_le (by decide) hs) (inj 8 rfl) ?_ (rfl) (keep (by decide) (Below.refl _ _))
   refine⟨hw,k2.put rfl (by rw[hI.size];exact Nat.lt_of_lt_of_le (by decide) hs) (by decide),?_⟩
   dsimp only
   rw[gp 8 _ 32 (by decide),gp 8 _ 16 (by decide),gp 8 _ 33 (by decide),gp 8 _ 7 (by decide)]
   simp only[oth 15 (by decide),oth 16 (by decide),oth 17 (by decide),oth 19 (by decide),oth 20 (by decide)]
   exact hc
 ·intro l a w hall hI
  have all:∀ j,j<22→l j=true:=fun j hj=>hall j (by rw[hsz];exact hj)
  obtain⟨hw,k2,hc⟩:Below w0.heap.size w0 w∧Kept2 22 ad4D a0 l a∧CX V cs I 37 ee w0.heap.size (l 15) (l 16) (l 17) (l 19) (l 20) (a.tmps.getD 32 undef) (a.tmps.getD 16 undef) (a.tmps.getD 33 undef) (a.tmps.getD 7 undef) w:=hI.world
  obtain⟨t,lo,hh,Vc,h2,h3,h4,h5,h6,h7,h8⟩:=hc (all 15 (by decide))
  obtain⟨b,y1,y2,y3⟩:=h8 (all 20 (by decide))
  exact fin a w b t lo hh hI.size hI.defers hI.kept y1 (hI.val 21 8 (by decide) rfl (all 21 (by decide))) hw y2 h4 h5 h6 y3
end Go.Proofs.YtbkjhfmehemgpaaGreat
