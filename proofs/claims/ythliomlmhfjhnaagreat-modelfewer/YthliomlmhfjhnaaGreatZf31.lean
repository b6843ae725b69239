/- Texts put together. -/
import Derived.Test.YthliomlmhfjhnaaGreatRows
import Derived.Test.YthliomlmhfjhnaaGreatZf27
import Derived.Test.YthliomlmhfjhnaaGreatZf25
import Derived.Test.YthliomlmhfjhnaaGreatZf26
namespace Go.Proofs.YthliomlmhfjhnaaGreat
set_option maxRecDepth 20000
set_option maxHeartbeats 16000000
open Go.ChangeShapes Go.WideShapes Go.ChangeAt Go.RowKit
set_option linter.unusedVariables false
set_option linter.unusedSimpArgs false
section
structure InLaw {T:Type} (I:T→Nat→Nat→World→Prop):Prop where
 below:∀ {t lo hi}{w w':World},I t lo hi w→Below w.heap.size w w'→I t lo hi w'
 only:∀ {t lo hi b}{w w':World},I t lo hi w→Only b w w'→(b<lo∨hi≤b)→I t lo hi w'
def CX {T:Type}(V:T→Value)(cs:T→Array Value)(I:T→Nat→Nat→World→Prop)(ty:TypeId)(ee:Int)(g:Nat)(c m x p s:Bool)(vc vm vx v1:Value)(w:World):Prop :=
 c=true→∃ t lo hi,vc=.tuple #[V t,.int .i64 ee]∧(m=true→vm=.tuple #[V t,.int .i64 ee])∧(x=true→vx=V t)∧g≤lo∧hi≤w.heap.size∧I t lo hi w∧(p=true→∀ b,v1=.pointer (some ⟨b,0,none⟩)→b<lo∨hi≤b)∧(s=true→∃ b,v1=.pointer (some ⟨b,0,none⟩)∧g≤b∧Blk ty w b (cs t))
section
variable {T:Type}{V:T→Value}{cs:T→Array Value}{I:T→Nat→Nat→World→Prop}{ty:TypeId}{ee:Int}{g:Nat}{c m x p s:Bool}{vc vm vx v1:Value}{w w':World}
theorem CX.below (L:InLaw I)(h:CX V cs I ty ee g c m x p s vc vm vx v1 w)(hb:Below w.heap.size w w'):CX V cs I ty ee g c m x p s vc vm vx v1 w':=fun hc=>by
 obtain⟨t,lo,hi,h1,h2,h3,h4,h5,h6,h7,h8⟩:=h hc
 exact⟨t,lo,hi,h1,h2,h3,h4,Nat.le_trans h5 hb.size,L.below h6 hb,h7,fun e=>(h8 e).elim fun b hb'=>⟨b,hb'.1,hb'.2.1,hb'.2.2.kept hb⟩⟩
theorem CX.lay (L:InLaw I)(h:CX V cs I ty ee g c m x p false vc vm vx v1 w)(o:Obj):CX V cs I ty ee g c m x true false vc vm vx (.pointer (some ⟨w.heap.size,0,none⟩)) (w.alloc o):=fun hc=>by
 have hb:=bNw (Below.refl w.heap.size w) o
 obtain⟨t,lo,hi,h1,h2,h3,h4,h5,h6,h7,h8⟩:=h hc
 exact⟨t,lo,hi,h1,h2,h3,h4,Nat.le_trans h5 hb.size,L.below h6 hb,fun _ b e=>by simp at e;omega,fun e=>by cases e⟩
theorem CX.moved (h:CX V cs I ty ee g true m x p s vc vm vx v1 w):CX V cs I ty ee g true true x p s vc vc vx v1 w:=fun hc=>by
 obtain⟨t,lo,hi,h1,h2,h3,h4,h5,h6,h7,h8⟩:=h hc
 exact⟨t,lo,hi,h1,fun _=>h1,h3,h4,h5,h6,h7,h8⟩
end
end
section
def md1D (i:Nat):Option Nat:=match i with|0=>some 9|1=>some 10|2=>some 11|3=>some 12|4=>some 13|5=>some 14|6=>some 8|7=>some 15|8=>some 16|9=>some 6|11=>some 7|_=>none
theorem md1D_inj:∀ i,i<12→∀ j,j<12→md1D i=md1D j→md1D i≠none→i=j:=by decide
def md1F (cfD cfH cfL cfV cfU cfX cfT cfN sz sd9:Int)(nn cb:Nat)(zs:List Int)(ee:Int)(g9:Nat)(z9:Array Value)(k:Nat→Bool)(j:Nat)(q:Value)(w:World):Prop:=match j with
 | 0=>q=.agg #[.int .i64 cfD,.int .i64 cfH,.int .i64 cfL,.int .i64 cfV,.int .i64 cfU,.int .i64 cfX,.int .i64 cfT,.int .i64 cfN]
 | 1=>q=.agg #[.int .i64 cfD,.int .i64 cfH,.int .i64 cfL,.int .i64 cfV,.int .i64 cfU,.int .i64 cfX,.int .i64 cfT,.int .i64 cfN]
 | 2=>q=.int .i64 sz
 | 3=>q=.int .u64 sd9
 | 4=>k 10=false→(∃ ya yc,q=.slice ya nn yc∧IsS w ⟨ya,nn,yc⟩ zs)
 | 5=>True
 | 6=>True
 | 7=>True
 | 8=>q=.int .i64 ee
 | 9=>∃ b,q=.pointer (some ⟨b,0,none⟩)∧g9≤b∧b<w.heap.size∧(k 10=false→Blk 27 w b z9)
 | 10=>True
 | 11=>q=.int .i64 ee
 | _=>True
theorem md1_region {id:Nat}{ops:Array Oper}{Q:Exit→Act→World→Prop}{a0:Act}{w0:World}{T:Type}{V:T→Value}{cs:T→Array Value}{I:T→Nat→Nat→World→Prop}(hI9:InLaw I)(cfD cfH cfL cfV cfU cfX cfT cfN sz sd9:Int)(nn cb:Nat)(zs:List Int)(ee:Int)(z9:Array Value)(hlow:lowB ops=true)(hsz:ops.size=12)
  (o0:OpIn ops 0 (some 9) (.load 23 (.tmp 2)) none []) (o1:OpIn ops 1 (some 10) (.load 23 (.tmp 2)) none []) (o2:OpIn ops 2 (some 11) (.call { callee:=.value (.func 41),args:=#[.tmp 10],argTypes:=#[23] }) none [1]) (o3:OpIn ops 3 (some 12) (.move (.tmp 1)) none []) (o4:OpIn ops 4 (some 13) (.call { callee:=.value (.func 40),args:=#[.tmp 11,.tmp 12],argTypes:=#[3,44] }) none [2,3]) (o5:OpIn ops 5 (some 14) (.call { callee:=.value (.func 39),args:=#[.tmp 9,.tmp 13],argTypes:=#[23,24] }) none [0,4]) (o6:OpIn ops 6 (some 8) (.move (.tmp 14)) none [5]) (o7:OpIn ops 7 (some 15) (.extract (.tmp 8) 0) none [6]) (o8:OpIn ops 8 (some 16) (.extract (.tmp 8) 1) none [6]) (o9:OpIn ops 9 (some 6) (.alloc 27) none []) (o10:OpIn ops 10 none (.store 27 (.tmp 6) (.tmp 15)) none [7,9]) (o11:OpIn ops 11 (some 7) (.assign (.tmp 16)) none [8])
  (x0:∀ w,Below w0.heap.size w0 w→(Instr.loadAt 23 (.pointer (some ⟨cb,0,none⟩))).run Tryz.prog w=.ok (.agg #[.int .i64 cfD,.int .i64 cfH,.int .i64 cfL,.int .i64 cfV,.int .i64 cfU,.int .i64 cfX,.int .i64 cfT,.int .i64 cfN]) w)
  (x1:∀ w,Below w0.heap.size w0 w→(Instr.loadAt 23 (.pointer (some ⟨cb,0,none⟩))).run Tryz.prog w=.ok (.agg #[.int .i64 cfD,.int .i64 cfH,.int .i64 cfL,.int .i64 cfV,.int .i64 cfU,.int .i64 cfX,.int .i64 cfT,.int .i64 cfN]) w)
  (x2:∀ w,Below w0.heap.size w0 w→Calls Tryz.prog 41 #[.agg #[.int .i64 cfD,.int .i64 cfH,.int .i64 cfL,.int .i64 cfV,.int .i64 cfU,.int .i64 cfX,.int .i64 cfT,.int .i64 cfN]] w fun e w'=>e=.returned (.int .i64 sz)∧Below w.heap.size w w')
  (x4:∀ w,Below w0.heap.size w0 w→Calls Tryz.prog 40 #[.int .i64 sz,.int .u64 sd9] w fun e w'=>(∃ a c,e=.returned (.slice a nn c)∧IsS w' ⟨a,nn,c⟩ zs)∧Below w.heap.size w w')
  (x5:∀ w ya yc,Below w0.heap.size w0 w→IsS w ⟨ya,nn,yc⟩ zs→Calls Tryz.prog 39 #[.agg #[.int .i64 cfD,.int .i64 cfH,.int .i64 cfL,.int .i64 cfV,.int .i64 cfU,.int .i64 cfX,.int .i64 cfT,.int .i64 cfN],.slice ya nn yc] w fun e w'=>∃ t,e=.returned (.tuple #[V t,.int .i64 ee])∧I t w.heap.size w'.heap.size w'∧Below w.heap.size w w')
  (u1:a0.tmps.getD 1 undef=.int .u64 sd9)
  (u2:a0.tmps.getD 2 undef=.pointer (some ⟨cb,0,none⟩))
  (xA:∀ w,(Instr.alloc 27 true (.tuple #[])).run Tryz.prog w=.ok (.pointer (some ⟨w.heap.size,0,none⟩)) (w.alloc (.cells z9 27)))
  (xS:∀ w b t,Blk 27 w b z9→∃ w',(Instr.storeAt 27 (.pointer (some ⟨b,0,none⟩)) (V t)).run Tryz.prog w=.ok () w'∧Blk 27 w' b (cs t)∧Only b w w'∧w'.heap.size=w.heap.size)
  (hs:20≤a0.tmps.size)
  (fin:∀ a w b t lo hi,a.tmps.size=a0.tmps.size→a.defers=a0.defers→(∀ s,(∀ i,i<12→md1D i≠some s)→a.tmps.getD s undef=a0.tmps.getD s undef)→a.tmps.getD 6 undef=.pointer (some ⟨b,0,none⟩)→a.tmps.getD 7 undef=.int .i64 ee→Below w0.heap.size w0 w→w0.heap.size≤b→w0.heap.size≤lo→hi≤w.heap.size→I t lo hi w→Blk 27 w b (cs t)→Q .normal a w):(Code.region id ops true).wp Tryz.prog Q a0 w0:=by
 have r39:∀ args w,(callFunc 39 args).run Tryz.prog w=.ok (.enter 39 args) w:=eNo Tryz.func39 (by kernel_rfl) rfl
 have r40:∀ args w,(callFunc 40 args).run Tryz.prog w=.ok (.enter 40 args) w:=eNo Tryz.func40 (by kernel_rfl) rfl
 have r41:∀ args w,(callFunc 41 args).run Tryz.prog w=.ok (.enter 41 args) w:=eNo Tryz.func41 (by kernel_rfl) rfl
 refine wp_region_inv2 (by kernel_rfl) hlow (Inv 12 md1D a0 (fun l a w=>Below w0.heap.size w0 w∧Kept2 12 md1D a0 l a∧CX V cs I 27 ee w0.heap.size (l 5) (l 6) (l 7) (l 9) (l 10) (a.tmps.getD 14 undef) (a.tmps.getD 8 undef) (a.tmps.getD 15 undef) (a.tmps.getD 6 undef) w) (md1F cfD cfH cfL cfV cfU cfX cfT cfN sz sd9 nn cb zs ee w0.heap.size z9)) (Inv.start ⟨(Below.refl _ _).drew,kept2_start _ _ _,(fun e=>by cases e)⟩) ?_ ?_
 ·intro l i o a w ho hl hcl hdep hI
  have hi:i<12:=by rw[←hsz];exact (Array.getElem?_eq_some_iff.1 ho).1
  have ev:∀ (s:Nat),a.eval (.tmp s)=a.tmps.getD s undef:=fun _=>rfl
  have evf:∀ f,a.eval (.func f)=.func (.func f) #[] #[]:=fun _=>rfl
  have evc:∀ c:Value,a.eval (.const c)=c:=fun _=>rfl
  have inj:∀ d,md1D i=some d→∀ j d',j<12→md1D j=some d'→j≠i→d'≠d:=fun d hd j d' hj hd' hne e=>hne (md1D_inj j hj i hi (by rw[hd',hd,e]) (by rw[hd'];simp))
  have kp:∀ s,(∀ i,i<12→md1D i≠some s)→a.tmps.getD s undef=a0.tmps.getD s undef:=hI.kept
  obtain⟨hw,k2,hc⟩:Below w0.heap.size w0 w∧Kept2 12 md1D a0 l a∧CX V cs I 27 ee w0.heap.size (l 5) (l 6) (l 7) (l 9) (l 10) (a.tmps.getD 14 undef) (a.tmps.getD 8 undef) (a.tmps.getD 15 undef) (a.tmps.getD 6 undef) w:=hI.world
  have oth:∀ j,j≠i→(l j || j==i)=l j:=fun j hj=>by rw[show (j==i)=false by simp[hj],Bool.or_false]
  have sam:(l i || i==i)=true:=by simp
  have gp:∀ (d:Nat) (v:Value) (s:Nat),d<20→(a.put (some d) v).tmps.getD s undef=if s=d then v else a.tmps.getD s undef:=fun d v s hd=>get_put a d v s (by rw[hI.size];exact Nat.lt_of_lt_of_le hd hs)
  have keep:∀ {w':World},i≠10→Below w.heap.size w w'→∀ j u,j<12→l j=true→j≠i→md1F cfD cfH cfL cfV cfU cfX cfT cfN sz sd9 nn cb zs ee w0.heap.size z9 l j u w→md1F cfD cfH cfL cfV cfU cfX cfT cfN sz sd9 nn cb zs ee w0.heap.size z9 (fun j=>l j || j==i) j u w':=by
   intro w' n6 hb j u hj _ _ hf
   unfold md1F at hf ⊢
   dsimp only
   rw[oth 10 (fun e=>n6 e.symm)]
   rcases (show j=0∨j=1∨j=2∨j=3∨j=4∨j=5∨j=6∨j=7∨j=8∨j=9∨j=10∨j=11 by omega) with rfl|rfl|rfl|rfl|rfl|rfl|rfl|rfl|rfl|rfl|rfl|rfl
   ·exact hf
   ·exact hf
   ·exact hf
   ·exact hf
   ·intro e9;have h:=hf e9;obtain⟨ya,yc,h1,h2⟩:=h;exact⟨ya,yc,h1,h2.below hb⟩
   ·exact hf
   ·exact hf
   ·exact hf
   ·exact hf
   ·obtain⟨b,q1,q2,q3,q4⟩:=hf;exact⟨b,q1,q2,Nat.lt_of_lt_of_le q3 hb.size,fun e=>(q4 e).kept hb⟩
   ·exact hf
   ·exact hf
  rcases (show i=0∨i=1∨i=2∨i=3∨i=4∨i=5∨i=6∨i=7∨i=8∨i=9∨i=10∨i=11 by omega) with rfl|rfl|rfl|rfl|rfl|rfl|rfl|rfl|rfl|rfl|rfl|rfl
  ·obtain⟨o',e1,e2,e3,e4,e5⟩:=o0
   obtain rfl:=sOp ho e1
   have dp:=dPo e5 hdep
   have n9:l 10=false:=by
    cases e0:l 10 with
    | false=>rfl
    | true =>
     have e0':=hcl.dep' o10 e0 7 (by decide)
     have e1':=hcl.dep' o7 e0' 6 (by decide)
     have e2':=hcl.dep' o6 e1' 5 (by decide)
     have e3':=hcl.dep' o5 e2' 0 (by decide)
     rw[hl] at e3'
     cases e3'
   have U2:a.tmps.getD 2 undef=.pointer (some ⟨cb,0,none⟩):=(kp 2 (by decide)).trans u2
   refine wVa (v:=.agg #[.int .i64 cfD,.int .i64 cfH,.int .i64 cfL,.int .i64 cfV,.int .i64 cfU,.int .i64 cfX,.int .i64 cfT,.int .i64 cfN]) (w':=w) ho e4 (by simp[execOp,e3,ev,evc,U2,x0 w hw]) ?_
   rw[e2]
   refine hI.put (by decide) (d:=9) rfl (Nat.lt_of_lt_of_le (by decide) hs) (inj 9 rfl) ?_ (rfl) (keep (by decide) (Below.refl _ _))
   refine⟨hw,k2.put rfl (by rw[hI.size];exact Nat.lt_of_lt_of_le (by decide) hs) (by decide),?_⟩
   dsimp only
   rw[gp 9 _ 14 (by decide),gp 9 _ 8 (by decide),gp 9 _ 15 (by decide),gp 9 _ 6 (by decide)]
   simp only[oth 5 (by decide),oth 6 (by decide),oth 7 (by decide),oth 9 (by decide),oth 10 (by decide)]
   exact hc
  ·obtain⟨o',e1,e2,e3,e4,e5⟩:=o1
   obtain rfl:=sOp ho e1
   have dp:=dPo e5 hdep
   have n9:l 10=false:=by
    cases e0:l 10 with
    | false=>rfl
    | true =>
     have e0':=hcl.dep' o10 e0 7 (by decide)
     have e1':=hcl.dep' o7 e0' 6 (by decide)
     have e2':=hcl.dep' o6 e1' 5 (by decide)
     have e3':=hcl.dep' o5 e2' 4 (by decide)
     have e4':=hcl.dep' o4 e3' 2 (by decide)
     have e5':=hcl.dep' o2 e4' 1 (by decide)
     rw[hl] at e5'
     cases e5'
   have U2:a.tmps.getD 2 undef=.pointer (some ⟨cb,0,none⟩):=(kp 2 (by decide)).trans u2
   refine wVa (v:=.agg #[.int .i64 cfD,.int .i64 cfH,.int .i64 cfL,.int .i64 cfV,.int .i64 cfU,.int .i64 cfX,.int .i64 cfT,.int .i64 cfN]) (w':=w) ho e4 (by simp[execOp,e3,ev,evc,U2,x1 w hw]) ?_
   rw[e2]
   refine hI.put (by decide) (d:=10) rfl (Nat.lt_of_lt_of_le (by decide) hs) (inj 10 rfl) ?_ (rfl) (keep (by decide) (Below.refl _ _))
   refine⟨hw,k2.put rfl (by rw[hI.size];exact Nat.lt_of_lt_of_le (by decide) hs) (by decide),?_⟩
   dsimp only
   rw[gp 10 _ 14 (by decide),gp 10 _ 8 (by decide),gp 10 _ 15 (by decide),gp 10 _ 6 (by decide)]
   simp only[oth 5 (by decide),oth 6 (by decide),oth 7 (by decide),oth 9 (by decide),oth 10 (by decide)]
   exact hc
  ·obtain⟨o',e1,e2,e3,e4,e5⟩:=o2
   obtain rfl:=sOp ho e1
   have dp:=dPo e5 hdep
   have n9:l 10=false:=by
    cases e0:l 10 with
    | false=>rfl
    | true =>
     have e0':=hcl.dep' o10 e0 7 (by decide)
     have e1':=hcl.dep' o7 e0' 6 (by decide)
     have e2':=hcl.dep' o6 e1' 5 (by decide)
     have e3':=hcl.dep' o5 e2' 4 (by decide)
     have e4':=hcl.dep' o4 e3' 2 (by decide)
     rw[hl] at e4'
     cases e4'
   have V1:a.tmps.getD 10 undef=.agg #[.int .i64 cfD,.int .i64 cfH,.int .i64 cfL,.int .i64 cfV,.int .i64 cfU,.int .i64 cfX,.int .i64 cfT,.int .i64 cfN]:=hI.val 1 10 (by decide) rfl (dp 1 (by decide))
   refine wCa (f:=41) (args:=#[.agg #[.int .i64 cfD,.int .i64 cfH,.int .i64 cfL,.int .i64 cfV,.int .i64 cfU,.int .i64 cfX,.int .i64 cfT,.int .i64 cfN]]) ho e4 (by simp[execOp,e3,resolve,invoke,Deferred.ofValue,r41,ev,evf,evc,V1]) ((x2 w hw).mono ?_)
   rintro e W ⟨rfl,hb6⟩
   refine⟨_,rfl,?_⟩
   rw[e2]
   refine hI.put (by decide) (d:=11) rfl (Nat.lt_of_lt_of_le (by decide) hs) (inj 11 rfl) ?_ (rfl) (keep (by decide) (hb6))
   refine⟨bTn hw (hb6),k2.put rfl (by rw[hI.size];exact Nat.lt_of_lt_of_le (by decide) hs) (by decide),?_⟩
   dsimp only
   rw[gp 11 _ 14 (by decide),gp 11 _ 8 (by decide),gp 11 _ 15 (by decide),gp 11 _ 6 (by decide)]
   simp only[oth 5 (by decide),oth 6 (by decide),oth 7 (by decide),oth 9 (by decide),oth 10 (by decide)]
   exact hc.below hI9 hb6
  ·obtain⟨o',e1,e2,e3,e4,e5⟩:=o3
   obtain rfl:=sOp ho e1
   have dp:=dPo e5 hdep
   have n9:l 10=false:=by
    cases e0:l 10 with
    | false=>rfl
    | true =>
     have e0':=hcl.dep' o10 e0 7 (by decide)
     have e1':=hcl.dep' o7 e0' 6 (by decide)
     have e2':=hcl.dep' o6 e1' 5 (by decide)
     have e3':=hcl.dep' o5 e2' 4 (by decide)
     have e4':=hcl.dep' o4 e3' 3 (by decide)
     rw[hl] at e4'
     cases e4'
   have U1:a.tmps.getD 1 undef=.int .u64 sd9:=(kp 1 (by decide)).trans u1
   refine wVa (v:=.int .u64 sd9) (w':=w) ho e4 (by simp[execOp,e3,ev,evc,U1]) ?_
   rw[e2]
   refine hI.put (by decide) (d:=12) rfl (Nat.lt_of_lt_of_le (by decide) hs) (inj 12 rfl) ?_ (rfl) (keep (by decide) (Below.refl _ _))
   refine⟨hw,k2.put rfl (by rw[hI.size];exact Nat.lt_of_lt_of_le (by decide) hs) (by decide),?_⟩
   dsimp only
   rw[gp 12 _ 14 (by decide),gp 12 _ 8 (by decide),gp 12 _ 15 (by decide),gp 12 _ 6 (by decide)]
   simp only[oth 5 (by decide),oth 6 (by decide),oth 7 (by decide),oth 9 (by decide),oth 10 (by decide)]
   exact hc
  ·obtain⟨o',e1,e2,e3,e4,e5⟩:=o4
   obtain rfl:=sOp ho e1
   have dp:=dPo e5 hdep
   have n9:l 10=false:=by
    cases e0:l 10 with
    | false=>rfl
    | true =>
     have e0':=hcl.dep' o10 e0 7 (by decide)
     have e1':=hcl.dep' o7 e0' 6 (by decide)
     have e2':=hcl.dep' o6 e1' 5 (by decide)
     have e3':=hcl.dep' o5 e2' 4 (by decide)
     rw[hl] at e3'
     cases e3'
   have V2:a.tmps.getD 11 undef=.int .i64 sz:=hI.val 2 11 (by decide) rfl (dp 2 (by decide))
   have V3:a.tmps.getD 12 undef=.int .u64 sd9:=hI.val 3 12 (by decide) rfl (dp 3 (by decide))
   refine wCa (f:=40) (args:=#[.int .i64 sz,.int .u64 sd9]) ho e4 (by simp[execOp,e3,resolve,invoke,Deferred.ofValue,r40,ev,evf,evc,V2,V3]) ((x4 w hw).mono ?_)
   rintro e W ⟨⟨a6,c6,rfl,f6⟩,hb6⟩
   refine⟨_,rfl,?_⟩
   rw[e2]
   refine hI.put (by decide) (d:=13) rfl (Nat.lt_of_lt_of_le (by decide) hs) (inj 13 rfl) ?_ (fun _=>⟨a6,c6,rfl,f6⟩) (keep (by decide) (hb6))
   refine⟨bTn hw (hb6),k2.put rfl (by rw[hI.size];exact Nat.lt_of_lt_of_le (by decide) hs) (by decide),?_⟩
   dsimp only
   rw[gp 13 _ 14 (by decide),gp 13 _ 8 (by decide),gp 13 _ 15 (by decide),gp 13 _ 6 (by decide)]
   simp only[oth 5 (by decide),oth 6 (by decide),oth 7 (by decide),oth 9 (by decide),oth 10 (by decide)]
   exact hc.below hI9 hb6
  ·obtain⟨o',e1,e2,e3,e4,e5⟩:=o5
   obtain rfl:=sOp ho e1
   have dp:=dPo e5 hdep
   have n9:l 10=false:=by
    cases e0:l 10 with
    | false=>rfl
    | true =>
     have e0':=hcl.dep' o10 e0 7 (by decide)
     have e1':=hcl.dep' o7 e0' 6 (by decide)
     have e2':=hcl.dep' o6 e1' 5 (by decide)
     rw[hl] at e2'
     cases e2'
   have V0:a.tmps.getD 9 undef=.agg #[.int .i64 cfD,.int .i64 cfH,.int .i64 cfL,.int .i64 cfV,.int .i64 cfU,.int .i64 cfX,.int .i64 cfT,.int .i64 cfN]:=hI.val 0 9 (by decide) rfl (dp 0 (by decide))
   obtain⟨a4,c4,V4,f4⟩:∃ ya yc,a.tmps.getD 13 undef=.slice ya nn yc∧IsS w ⟨ya,nn,yc⟩ zs:=hI.val 4 13 (by decide) rfl (dp 4 (by decide)) n9
   refine wCa (f:=39) (args:=#[.agg #[.int .i64 cfD,.int .i64 cfH,.int .i64 cfL,.int .i64 cfV,.int .i64 cfU,.int .i64 cfX,.int .i64 cfT,.int .i64 cfN],.slice a4 nn c4]) ho e4 (by simp[execOp,e3,resolve,invoke,Deferred.ofValue,r39,ev,evf,evc,V0,V4]) ((x5 w a4 c4 hw f4).mono ?_)
   rintro e W ⟨t,rfl,ht,hb⟩
   refine⟨_,rfl,?_⟩
   rw[e2]
   refine hI.put (by decide) (d:=14) rfl (Nat.lt_of_lt_of_le (by decide) hs) (inj 14 rfl) ?_ (trivial) (keep (by decide) (hb))
   refine⟨bTn hw (hb),k2.put rfl (by rw[hI.size];exact Nat.lt_of_lt_of_le (by decide) hs) (by decide),?_⟩
   dsimp only
   rw[gp 14 _ 14 (by decide),gp 14 _ 8 (by decide),gp 14 _ 15 (by decide),gp 14 _ 6 (by decide)]
   simp only[oth 6 (by decide),oth 7 (by decide),oth 9 (by decide),oth 10 (by decide),sam]
   exact fun _=>⟨t,w.heap.size,W.heap.size,rfl,(fun e9=>by
     have y:=hcl.dep' o6 e9 5 (by decide)
     rw[hl] at y
     cases y),(fun e9=>by
     have y:=hcl.dep' o6 (hcl.dep' o7 e9 6 (by decide)) 5 (by decide)
     rw[hl] at y
     cases y),hw.size,Nat.le_refl _,ht,(fun e9 b eb=>by
     obtain⟨b2,p1,p2,p3,p4⟩:∃ b,a.tmps.getD 6 undef=.pointer (some ⟨b,0,none⟩)∧w0.heap.size≤b∧b<w.heap.size∧(l 10=false→Blk 27 w b z9):=hI.val 9 6 (by decide) rfl e9
     have:=p1.symm.trans eb
     simp at this
     omega),(fun e9=>by rw[n9] at e9;cases e9)⟩
  ·obtain⟨o',e1,e2,e3,e4,e5⟩:=o6
   obtain rfl:=sOp ho e1
   have dp:=dPo e5 hdep
   have n9:l 10=false:=by
    cases e0:l 10 with
    | false=>rfl
    | true =>
     have e0':=hcl.dep' o10 e0 7 (by decide)
     have e1':=hcl.dep' o7 e0' 6 (by decide)
     rw[hl] at e1'
     cases e1'
   obtain⟨t,lo,hh,Vc,h2,h3,h4,h5,h6,h7,h8⟩:=hc (dp 5 (by decide))
   refine wVa (v:=.tuple #[V t,.int .i64 ee]) (w':=w) ho e4 (by simp[execOp,e3,ev,evc,Vc]) ?_
   rw[e2]
   refine hI.put (by decide) (d:=8) rfl (Nat.lt_of_lt_of_le (by decide) hs) (inj 8 rfl) ?_ (trivial) (keep (by decide) (Below.refl _ _))
   refine⟨hw,k2.put rfl (by rw[hI.size];exact Nat.lt_of_lt_of_le (by decide) hs) (by decide),?_⟩
   dsimp only
   rw[gp 8 _ 14 (by decide),gp 8 _ 8 (by decide),gp 8 _ 15 (by decide),gp 8 _ 6 (by decide)]
   simp only[oth 5 (by decide),oth 7 (by decide),oth 9 (by decide),oth 10 (by decide),sam]
   rw[dp 5 (by decide)] at hc ⊢
   rw[←Vc]
   exact hc.moved
  ·obtain⟨o',e1,e2,e3,e4,e5⟩:=o7
   obtain rfl:=sOp ho e1
   have dp:=dPo e5 hdep
   have n9:l 10=false:=by
    cases e0:l 10 with
    | false=>rfl
    | true =>
     have e0':=hcl.dep' o10 e0 7 (by decide)
     rw[hl] at e0'
     cases e0'
   obtain⟨t,lo,hh,Vc,h2,h3,h4,h5,h6,h7,h8⟩:=hc (hcl.dep' o6 (dp 6 (by decide)) 5 (by decide))
   have Vm:=h2 (dp 6 (by decide))
   refine wVa (v:=V t) (w':=w) ho e4 (by simp[execOp,e3,ev,evc,Vm,Instr.extract]) ?_
   rw[e2]
   refine hI.put (by decide) (d:=15) rfl (Nat.lt_of_lt_of_le (by decide) hs) (inj 15 rfl) ?_ (trivial) (keep (by decide) (Below.refl _ _))
   refine⟨hw,k2.put rfl (by rw[hI.size];exact Nat.lt_of_lt_of_le (by decide) hs) (by decide),?_⟩
   dsimp only
   rw[gp 15 _ 14 (by decide),gp 15 _ 8 (by decide),gp 15 _ 15 (by decide),gp 15 _ 6 (by decide)]
   simp only[oth 5 (by decide),oth 6 (by decide),oth 9 (by decide),oth 10 (by decide),sam]
   exact fun _=>⟨t,lo,hh,Vc,h2,fun _=>rfl,h4,h5,h6,h7,h8⟩
  ·obtain⟨o',e1,e2,e3,e4,e5⟩:=o8
   obtain rfl:=sOp ho e1
   have dp:=dPo e5 hdep
   obtain⟨t,lo,hh,Vc,h2,h3,h4,h5,h6,h7,h8⟩:=hc (hcl.dep' o6 (dp 6 (by decide)) 5 (by decide))
   have Vm:=h2 (dp 6 (by decide))
   refine wVa (v:=.int .i64 ee) (w':=w) ho e4 (by simp[execOp,e3,ev,evc,Vm,Instr.extract]) ?_
   rw[e2]
   refine hI.put (by decide) (d:=16) rfl (Nat.lt_of_lt_of_le (by decide) hs) (inj 16 rfl) ?_ (rfl) (keep (by decide) (Below.refl _ _))
   refine⟨hw,k2.put rfl (by rw[hI.size];exact Nat.lt_of_lt_of_le (by decide) hs) (by decide),?_⟩
   dsimp only
   rw[gp 16 _ 14 (by decide),gp 16 _ 8 (by decide),gp 16 _ 15 (by decide),gp 16 _ 6 (by decide)]
   simp only[oth 5 (by decide),oth 6 (by decide),oth 7 (by decide),oth 9 (by decide),oth 10 (by decide)]
   exact hc
  ·obtain⟨o',e1,e2,e3,e4,e5⟩:=o9
   obtain rfl:=sOp ho e1
   have dp:=dPo e5 hdep
   have n9:l 10=false:=by
    cases e0:l 10 with
    | false=>rfl
    | true =>
     have e0':=hcl.dep' o10 e0 9 (by decide)
     rw[hl] at e0'
     cases e0'
   have hb:=bNw (Below.refl w.heap.size w) (.cells z9 27)
   refine wVa (v:=.pointer (some ⟨w.heap.size,0,none⟩)) (w':=w.alloc (.cells z9 27)) ho e4 (by simp[execOp,e3,xA]) ?_
   rw[e2]
   refine hI.put (by decide) (d:=6) rfl (Nat.lt_of_lt_of_le (by decide) hs) (inj 6 rfl) ?_ (⟨w.heap.size,rfl,hw.size,by simp,fun _=>Blk.new 27 w _⟩) (keep (by decide) (hb))
   refine⟨bTn hw (hb),k2.put rfl (by rw[hI.size];exact Nat.lt_of_lt_of_le (by decide) hs) (by decide),?_⟩
   dsimp only
   rw[gp 6 _ 14 (by decide),gp 6 _ 8 (by decide),gp 6 _ 15 (by decide),gp 6 _ 6 (by decide)]
   simp only[oth 5 (by decide),oth 6 (by decide),oth 7 (by decide),oth 10 (by decide),sam]
   rw[n9] at hc ⊢
   exact hc.lay hI9 _
  ·obtain⟨o',e1,e2,e3,e4,e5⟩:=o10
   obtain rfl:=sOp ho e1
   have dp:=dPo e5 hdep
   obtain⟨b,Va,gb,lb,q⟩:∃ b,a.tmps.getD 6 undef=.pointer (some ⟨b,0,none⟩)∧w0.heap.size≤b∧b<w.heap.size∧(l 10=false→Blk 27 w b z9):=hI.val 9 6 (by decide) rfl (dp 9 (by decide))
   replace q:=q hl
   obtain⟨t,lo,hh,Vc,h2,h3,h4,h5,h6,h7,h8⟩:=hc (hcl.dep' o6 (hcl.dep' o7 (dp 7 (by decide)) 6 (by decide)) 5 (by decide))
   have Vx:=h3 (dp 7 (by decide))
   obtain⟨w',r',q',on,hz⟩:=xS w b t q
   have hb9:Below w0.heap.size w0 w':=Only.below hw gb hw.size on
   refine wSk (w':=w') ho e4 (by simp[execOp,e3,ev,Va,Vx,r']) ?_
   rw[e2]
   refine Inv.none_' hI rfl ⟨hb9,fun s9 hs9=>k2 s9 (fun j hj hl9=>hs9 j hj (by simp[hl9])),?_⟩ (fun j dd hj hD hkj hne hf=>?_)
   ·dsimp only
    simp only[oth 5 (by decide),oth 6 (by decide),oth 7 (by decide),oth 9 (by decide),sam]
    exact fun _=>⟨t,lo,hh,Vc,h2,h3,h4,(by omega),hI9.only h6 on (h7 (dp 9 (by decide)) b Va),h7,fun _=>⟨b,Va,gb,q'⟩⟩
   ·unfold md1F at hf ⊢
    dsimp only
    rw[sam]
    rcases (show j=0∨j=1∨j=2∨j=3∨j=4∨j=5∨j=6∨j=7∨j=8∨j=9∨j=10∨j=11 by omega) with rfl|rfl|rfl|rfl|rfl|rfl|rfl|rfl|rfl|rfl|rfl|rfl
    ·exact hf
    ·exact hf
    ·exact hf
    ·exact hf
    ·intro e9;cases e9
    ·exact hf
    ·exact hf
    ·exact hf
    ·exact hf
    ·obtain⟨b2,p1,p2,p3,p4⟩:=hf;exact⟨b2,p1,p2,by omega,fun e=>by cases e⟩
    ·exact hf
    ·exact hf
  ·obtain⟨o',e1,e2,e3,e4,e5⟩:=o11
   obtain rfl:=sOp ho e1
   have dp:=dPo e5 hdep
   have V9:a.tmps.getD 16 undef=.int .i64 ee:=hI.val 8 16 (by decide) rfl (dp 8 (by decide))
   refine wVa (v:=.int .i64 ee) (w':=w) ho e4 (by simp[execOp,e3,ev,evc,V9]) ?_
   rw[e2]
   refine hI.put (by decide) (d:=7) rfl (Nat.lt_of_lt_of_le (by decide) hs) (inj 7 rfl) ?_ (rfl) (keep (by decide) (Below.refl _ _))
   refine⟨hw,k2.put rfl (by rw[hI.size];exact Nat.lt_of_lt_of_le (by decide) hs) (by decide),?_⟩
   dsimp only
   rw[gp 7 _ 14 (by decide),gp 7 _ 8 (by decide),gp 7 _ 15 (by decide),gp 7 _ 6 (by decide)]
   simp only[oth 5 (by decide),oth 6 (by decide),oth 7 (by decide),oth 9 (by decide),oth 10 (by decide)]
   exact hc
 ·intro l a w hall hI
  have all:∀ j,j<12→l j=true:=fun j hj=>hall j (by rw[hsz];exact hj)
  obtain⟨hw,k2,hc⟩:Below w0.heap.size w0 w∧Kept2 12 md1D a0 l a∧CX V cs I 27 ee w0.heap.size (l 5) (l 6) (l 7) (l 9) (l 10) (a.tmps.getD 14 undef) (a.tmps.getD 8 undef) (a.tmps.getD 15 undef) (a.tmps.getD 6 undef) w:=hI.world
  obtain⟨t,lo,hh,Vc,h2,h3,h4,h5,h6,h7,h8⟩:=hc (all 5 (by decide))
  obtain⟨b,y1,y2,y3⟩:=h8 (all 10 (by decide))
  exact fin a w b t lo hh hI.size hI.defers hI.kept y1 (hI.val 11 7 (by decide) rfl (all 11 (by decide))) hw y2 h4 h5 h6 y3
end
section
open Go.Sort hiding Below
theorem grown_typed (R S:Int)(La:Option Addr)(ml Lc:Nat)(L:SL)(Y:Nat→Nat→SL)(m:AdV)(w:World)(hM:AdAt w L Y m)(hF:FitsA m)(e1:L.a=La)(hml:m.ln=ml) :
  Calls Tryz.prog 10 #[.agg #[.int .i64 R,.int .i64 S,.slice La ml Lc]] w fun e w'=>∃ (L':SL) (Y':Nat→Nat→SL),e=.returned (.agg #[.int .i64 R,.int .i64 S,.slice L'.a L'.n L'.c])∧TA w.heap.size w' (.slice L'.a L'.n L'.c) m.ln Y' m.f∧Below w.heap.size w w':=by
 obtain⟨W0,eW⟩:∃ W0,(w.alloc (.cells #[.int .i64 R,.int .i64 S,.slice La ml Lc] 30)).alloc (.cells #[.int .i64 0,.int .i64 0,nilS] 30)=W0:=⟨_,rfl⟩
 have hb:Below w.heap.size w W0:=eW ▸ bNw (bNw (Below.refl _ w) _) _
 have qa:Blk 30 W0 w.heap.size #[.int .i64 R,.int .i64 S,.slice La ml Lc]:=eW ▸ (Blk.new 30 w _).kept (bNw (Below.refl _ _) _)
 have qb:Blk 30 W0 (w.heap.size+1) #[.int .i64 0,.int .i64 0,nilS]:=eW ▸ Blk.new_at 30 (w.alloc _) _ _ (by simp)
 have HM:=hdn hM
 have HF:=hdn hF
 have HL:=hdn (And.intro e1 hml)
 have Hml:ml≤20:=by have:=hF.ln;omega
 have HV:=hdn (And.intro hb (And.intro qa qb))
 have EW:=hdn eW
 clear hM hF e1 hml hb qa qb eW
 go_enter Tryz.func10,Tryz.ntmps10
 go_wp2
 rw[EW.out]
 go_loopw [3,4,5] (fun v3 i _ wr=>∃ k:Nat,k≤ml∧i=.int .i64 k∧Below W0.heap.size W0 wr∧∃ Y':Nat→Nat→SL,TA W0.heap.size wr v3 k Y' m.f) (fun _ i _ _=>ml-(intOf i).toNat)
 case atStart=>exact⟨0,Nat.zero_le _,rfl,Below.refl _ _,fun _ _=>SL.nought,TA.nil _ _ _ _⟩
 case round =>
  obtain⟨k,hk,rfl,hbr,Y',tL⟩:=hrel
  obtain⟨WR,eWR⟩:∃ WR,WR=wr:=⟨_,rfl⟩
  subst eWR
  obtain⟨bV,qa,qb⟩:=HV.out
  have hbw:=bTn bV hbr
  obtain⟨a0,a1,a2⟩:=(qa.kept hbr).c3
  by_cases hlt:k<ml
  ·have hMr:=HM.out.below hbw
   have hkm:k<m.ln:=by rw[HL.out.2];exact hlt
   obtain⟨x0,hx0⟩:=hMr.some_ (by omega)
   obtain rfl:La=some x0:=HL.out.1.symm.trans hx0
   have la:=hMr.lay k hkm
   obtain⟨P,eP,p0,p1,p2,p3⟩:=at_four (fun j hj=>hMr.cell x0 hx0 k hkm j hj)
   have hlt':(k:Int)<(ml:Int):=by omega
   have srs:=hbr.size
   have HB:=hdn (And.intro hbw hbr)
   have HLA:=hdn la
   have HT:=hdn tL
   have HS:=hdn srs
   clear hMr hbw hbr la tL bV qa qb srs
   go_wp2
   have q5:=Blk.new 61 WR #[.slice (Y k 0).a (Y k 0).n (Y k 0).c,.slice (Y k 1).a (Y k 1).n (Y k 1).c,.slice (Y k 2).a (Y k 2).n (Y k 2).c,.slice (Y k 3).a (Y k 3).n (Y k 3).c]
   obtain⟨W1,e1⟩:∃ W1,WR.alloc (.cells #[.slice (Y k 0).a (Y k 0).n (Y k 0).c,.slice (Y k 1).a (Y k 1).n (Y k 1).c,.slice (Y k 2).a (Y k 2).n (Y k 2).c,.slice (Y k 3).a (Y k 3).n (Y k 3).c] 61)=W1:=⟨_,rfl⟩
   have bW1:Below WR.heap.size WR W1:=e1 ▸ bNw (Below.refl _ _) _
   rw[e1] at q5 ⊢
   clear e1 p0 p1 p2 p3 a0 a1 a2
   refine own_region W0.heap.size WR.heap.size k _ Y' m.f (Y k) (by kernel_rfl) rfl ⟨_,rfl,rfl,rfl,rfl,by kernel_rfl⟩ (fun j hj=>by rcases (show j=0∨j=1∨j=2∨j=3 by omega) with rfl|rfl|rfl|rfl<;>exact⟨⟨_,rfl,rfl,rfl,rfl,by kernel_rfl⟩,⟨_,rfl,rfl,rfl,rfl,by kernel_rfl⟩,⟨_,rfl,rfl,rfl,rfl,by kernel_rfl⟩,⟨_,rfl,rfl,rfl,rfl,by kernel_rfl⟩⟩)
    ⟨_,rfl,rfl,rfl,rfl,by kernel_rfl⟩ ⟨_,rfl,rfl,rfl,rfl,by kernel_rfl⟩ ⟨_,rfl,rfl,rfl,rfl,by kernel_rfl⟩ ⟨_,rfl,rfl,rfl,rfl,by kernel_rfl⟩ rfl rfl (Nat.le_of_ble_eq_true rfl) (Nat.le_trans HS.out bW1.size) (HT.out.below bW1) q5 (fun j hj=>⟨(HLA.out j hj).below bW1,by have:=HF.out.f k hkm j hj;omega⟩) (by omega) ?_
   intro a W2 s hs hd hkp hbo hta
   have bW2:Below W0.heap.size W0 W2:=(bTn HB.out.2 bW1).trans hbo
   have ep:=fPu [3,18,19,20,21,22,23,24,25,26,27,28,29,30,31,32,33,34,35,36,37] hs hd (fun s h=>hkp s (by simp at h;omega))
   simp only[List.foldl] at ep
   clear hs hd hkp
   generalize a.tmps.getD 3 undef=g3 at ep hta
   generalize a.tmps.getD 18 undef=g18,a.tmps.getD 19 undef=g19,a.tmps.getD 20 undef=g20,a.tmps.getD 21 undef=g21,a.tmps.getD 22 undef=g22,a.tmps.getD 23 undef=g23,a.tmps.getD 24 undef=g24,a.tmps.getD 25 undef=g25,a.tmps.getD 26 undef=g26,a.tmps.getD 27 undef=g27,a.tmps.getD 28 undef=g28,a.tmps.getD 29 undef=g29,a.tmps.getD 30 undef=g30,a.tmps.getD 31 undef=g31,a.tmps.getD 32 undef=g32,a.tmps.getD 33 undef=g33,a.tmps.getD 34 undef=g34,a.tmps.getD 35 undef=g35,a.tmps.getD 36 undef=g36,a.tmps.getD 37 undef=g37 at ep
   simp only[Act.put,List.setIfInBounds_toArray,List.set_cons_succ,List.set_cons_zero] at ep
   subst ep
   clear q5 bW1 hbo
   go_wp2
   go_roundw
   case rel=>exact⟨k+1,by omega,by go_num,bW2,_,hta⟩
   case measure=>simp[intOf];omega
  ·have e:k=ml:=by omega
   subst e
   have el:m.ln=k:=HL.out.2
   obtain⟨L',rfl,nw⟩:=TA.new (m:=m) (by rw[el];exact tL)
   have HTL:=hdn tL
   have qb':=qb.kept hbr
   have qa':=qa.kept hbr
   have lt1:=qa.lt
   have lt2:=qb.lt
   obtain⟨b0,b1,b2⟩:=qb'.c3
   obtain⟨z0,z1,z2⟩:=qa'.o3
   -- the layers are laid into the adapter,and that into the result
   have qa2:Blk 30 (WR.setCell ⟨w.heap.size,2,none⟩ (.slice L'.a L'.n L'.c)) w.heap.size #[.int .i64 R,.int .i64 S,.slice L'.a L'.n L'.c]:=set_blk qa' 2 _ rfl
   have qb2:Blk 30 (WR.setCell ⟨w.heap.size,2,none⟩ (.slice L'.a L'.n L'.c)) (w.heap.size+1) #[.int .i64 0,.int .i64 0,nilS]:=qb'.other _ (by simp)
   have on2:=Only.set w.heap.size 2 WR (.slice L'.a L'.n L'.c)
   obtain⟨V,eV⟩:∃ V,WR.setCell ⟨w.heap.size,2,none⟩ (.slice L'.a L'.n L'.c)=V:=⟨_,rfl⟩
   rw[eV] at qa2 qb2 on2
   have bV2:Below w.heap.size w V:=Only.below hbw (Nat.le_refl _) hbw.size on2
   obtain⟨d0,d1,d2⟩:=qa2.c3
   obtain⟨f0,f1,f2⟩:=qb2.c3
   obtain⟨o0,o1,o2⟩:=qb2.o3
   clear tL b0 b1 b2
   unfold SL.v
   go_wp2
   obtain⟨W6,eW6,q6,only,hz⟩:=set3 qb2 (.int .i64 R) (.int .i64 S) (.slice L'.a L'.n L'.c)
   rw[eW6]
   have K:∀ t,t≠30→Keeps t WR W6:=fun t ht=>(Keeps.of_only on2 qa' ht).trans (Keeps.of_only only qb2 ht)
   have tF:=(HTL.out.stepK (K 61 (by decide)) (K 73 (by decide))).le (B':=w.heap.size) (by omega)
   rw[←el] at tF
   refine bodyPost_ret (v:=.agg #[.int .i64 R,.int .i64 S,.slice L'.a L'.n L'.c]) ?_ rfl ⟨L',Y',rfl,tF,Only.below bV2 (Nat.le_succ _) bV2.size only⟩
   obtain⟨y0,y1,y2⟩:=q6.c3
   simp[results,Tryz.results10,go_sem,y0,y1,y2]
end
end Go.Proofs.YthliomlmhfjhnaaGreat
