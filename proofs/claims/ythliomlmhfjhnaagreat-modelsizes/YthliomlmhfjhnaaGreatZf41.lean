/- Texts put together. -/
import Derived.Test.YthliomlmhfjhnaaGreatRows
import Derived.Test.YthliomlmhfjhnaaGreatZf38
import Derived.Test.YthliomlmhfjhnaaGreatZf31
namespace Go.Proofs.YthliomlmhfjhnaaGreat
set_option maxRecDepth 20000
set_option maxHeartbeats 16000000
open Go.ChangeShapes Go.WideShapes Go.ChangeAt Go.RowKit
set_option linter.unusedVariables false
set_option linter.unusedSimpArgs false
section
def wo2D (i:Nat):Option Nat:=match i with|0=>some 22|1=>some 23|2=>some 24|3=>some 21|4=>some 25|5=>some 26|6=>some 3|8=>some 4|_=>none
theorem wo2D_inj:∀ i,i<9→∀ j,j<9→wo2D i=wo2D j→wo2D i≠none→i=j:=by decide
def wo2F (zs:List Int)(ee:Int)(g9:Nat)(z9:Array Value)(k:Nat→Bool)(j:Nat)(q:Value)(w:World):Prop:=match j with
 | 0=>q=.agg #[.int .i64 2,.int .i64 1,.int .i64 1,.int .i64 2,.int .i64 1,.int .i64 0,.int .i64 0,.int .i64 0]
 | 1=>k 7=false→(∃ yb,q=.slice (some ⟨yb,0,none⟩) 34 34∧IsS w ⟨some ⟨yb,0,none⟩,34,34⟩ zs)
 | 2=>True
 | 3=>True
 | 4=>True
 | 5=>q=.int .i64 ee
 | 6=>∃ b,q=.pointer (some ⟨b,0,none⟩)∧g9≤b∧b<w.heap.size∧(k 7=false→Blk 27 w b z9)
 | 7=>True
 | 8=>q=.int .i64 ee
 | _=>True
theorem wo2_region {id:Nat}{ops:Array Oper}{Q:Exit→Act→World→Prop}{a0:Act}{w0:World}{T:Type}{V:T→Value}{cs:T→Array Value}{I:T→Nat→Nat→World→Prop}(hI9:InLaw I)(zs:List Int)(ee:Int)(z9:Array Value)(hlow:lowB ops=true)(hsz:ops.size=9)
  (o0:OpIn ops 0 (some 22) (.call { callee:=.value (.func 52),args:=#[],argTypes:=#[] }) none []) (o1:OpIn ops 1 (some 23) (.makeSlice 24 (.const (.int .i64 34)) (.const (.int .i64 34))) none []) (o2:OpIn ops 2 (some 24) (.call { callee:=.value (.func 39),args:=#[.tmp 22,.tmp 23],argTypes:=#[23,24] }) none [0,1]) (o3:OpIn ops 3 (some 21) (.move (.tmp 24)) none [2]) (o4:OpIn ops 4 (some 25) (.extract (.tmp 21) 0) none [3]) (o5:OpIn ops 5 (some 26) (.extract (.tmp 21) 1) none [3]) (o6:OpIn ops 6 (some 3) (.alloc 27) none []) (o7:OpIn ops 7 none (.store 27 (.tmp 3) (.tmp 25)) none [4,6]) (o8:OpIn ops 8 (some 4) (.assign (.tmp 26)) none [5])
  (x0:∀ w,Below w0.heap.size w0 w→Calls Tryz.prog 52 #[] w fun e w'=>e=.returned (.agg #[.int .i64 2,.int .i64 1,.int .i64 1,.int .i64 2,.int .i64 1,.int .i64 0,.int .i64 0,.int .i64 0])∧Below w.heap.size w w')
  (x1:∀ w,∃ yb W,(Instr.makeSlice 24 (.int .i64 34) (.int .i64 34)).run Tryz.prog w=.ok (.slice (some ⟨yb,0,none⟩) 34 34) W∧Below w.heap.size w W∧IsS W ⟨some ⟨yb,0,none⟩,34,34⟩ zs)
  (x2:∀ w yb,Below w0.heap.size w0 w→IsS w ⟨some ⟨yb,0,none⟩,34,34⟩ zs→Calls Tryz.prog 39 #[.agg #[.int .i64 2,.int .i64 1,.int .i64 1,.int .i64 2,.int .i64 1,.int .i64 0,.int .i64 0,.int .i64 0],.slice (some ⟨yb,0,none⟩) 34 34] w fun e w'=>∃ t,e=.returned (.tuple #[V t,.int .i64 ee])∧I t w.heap.size w'.heap.size w'∧Below w.heap.size w w')
  (xA:∀ w,(Instr.alloc 27 true (.tuple #[])).run Tryz.prog w=.ok (.pointer (some ⟨w.heap.size,0,none⟩)) (w.alloc (.cells z9 27)))
  (xS:∀ w b t,Blk 27 w b z9→∃ w',(Instr.storeAt 27 (.pointer (some ⟨b,0,none⟩)) (V t)).run Tryz.prog w=.ok () w'∧Blk 27 w' b (cs t)∧Only b w w'∧w'.heap.size=w.heap.size)
  (hs:110≤a0.tmps.size)
  (fin:∀ a w b t lo hi,a.tmps.size=a0.tmps.size→a.defers=a0.defers→(∀ s,(∀ i,i<9→wo2D i≠some s)→a.tmps.getD s undef=a0.tmps.getD s undef)→a.tmps.getD 3 undef=.pointer (some ⟨b,0,none⟩)→a.tmps.getD 4 undef=.int .i64 ee→Below w0.heap.size w0 w→w0.heap.size≤b→w0.heap.size≤lo→hi≤w.heap.size→I t lo hi w→Blk 27 w b (cs t)→Q .normal a w):(Code.region id ops true).wp Tryz.prog Q a0 w0:=by
 have r39:∀ args w,(callFunc 39 args).run Tryz.prog w=.ok (.enter 39 args) w:=eNo Tryz.func39 (by kernel_rfl) rfl
 have r52:∀ args w,(callFunc 52 args).run Tryz.prog w=.ok (.enter 52 args) w:=eNo Tryz.func52 (by kernel_rfl) rfl
 refine wp_region_inv2 (by kernel_rfl) hlow (Inv 9 wo2D a0 (fun l a w=>Below w0.heap.size w0 w∧Kept2 9 wo2D a0 l a∧CX V cs I 27 ee w0.heap.size (l 2) (l 3) (l 4) (l 6) (l 7) (a.tmps.getD 24 undef) (a.tmps.getD 21 undef) (a.tmps.getD 25 undef) (a.tmps.getD 3 undef) w) (wo2F zs ee w0.heap.size z9)) (Inv.start ⟨(Below.refl _ _).drew,kept2_start _ _ _,(fun e=>by cases e)⟩) ?_ ?_
 ·intro l i o a w ho hl hcl hdep hI
  have hi:i<9:=by rw[←hsz];exact (Array.getElem?_eq_some_iff.1 ho).1
  have ev:∀ (s:Nat),a.eval (.tmp s)=a.tmps.getD s undef:=fun _=>rfl
  have evf:∀ f,a.eval (.func f)=.func (.func f) #[] #[]:=fun _=>rfl
  have evc:∀ c:Value,a.eval (.const c)=c:=fun _=>rfl
  have inj:∀ d,wo2D i=some d→∀ j d',j<9→wo2D j=some d'→j≠i→d'≠d:=fun d hd j d' hj hd' hne e=>hne (wo2D_inj j hj i hi (by rw[hd',hd,e]) (by rw[hd'];simp))
  have kp:∀ s,(∀ i,i<9→wo2D i≠some s)→a.tmps.getD s undef=a0.tmps.getD s undef:=hI.kept
  obtain⟨hw,k2,hc⟩:Below w0.heap.size w0 w∧Kept2 9 wo2D a0 l a∧CX V cs I 27 ee w0.heap.size (l 2) (l 3) (l 4) (l 6) (l 7) (a.tmps.getD 24 undef) (a.tmps.getD 21 undef) (a.tmps.getD 25 undef) (a.tmps.getD 3 undef) w:=hI.world
  have oth:∀ j,j≠i→(l j || j==i)=l j:=fun j hj=>by rw[show (j==i)=false by simp[hj],Bool.or_false]
  have sam:(l i || i==i)=true:=by simp
  have gp:∀ (d:Nat) (v:Value) (s:Nat),d<110→(a.put (some d) v).tmps.getD s undef=if s=d then v else a.tmps.getD s undef:=fun d v s hd=>get_put a d v s (by rw[hI.size];exact Nat.lt_of_lt_of_le hd hs)
  have keep:∀ {w':World},i≠7→Below w.heap.size w w'→∀ j u,j<9→l j=true→j≠i→wo2F zs ee w0.heap.size z9 l j u w→wo2F zs ee w0.heap.size z9 (fun j=>l j || j==i) j u w':=by
   intro w' n6 hb j u hj _ _ hf
   unfold wo2F at hf ⊢
   dsimp only
   rw[oth 7 (fun e=>n6 e.symm)]
   rcases (show j=0∨j=1∨j=2∨j=3∨j=4∨j=5∨j=6∨j=7∨j=8 by omega) with rfl|rfl|rfl|rfl|rfl|rfl|rfl|rfl|rfl
   ·exact hf
   ·intro e9;have h:=hf e9;obtain⟨yb,h1,h2⟩:=h;exact⟨yb,h1,h2.below hb⟩
   ·exact hf
   ·exact hf
   ·exact hf
   ·exact hf
   ·obtain⟨b,q1,q2,q3,q4⟩:=hf;exact⟨b,q1,q2,Nat.lt_of_lt_of_le q3 hb.size,fun e=>(q4 e).kept hb⟩
   ·exact hf
   ·exact hf
  rcases (show i=0∨i=1∨i=2∨i=3∨i=4∨i=5∨i=6∨i=7∨i=8 by omega) with rfl|rfl|rfl|rfl|rfl|rfl|rfl|rfl|rfl
  ·obtain⟨o',e1,e2,e3,e4,e5⟩:=o0
   obtain rfl:=sOp ho e1
   have dp:=dPo e5 hdep
   have n9:l 7=false:=by
    cases e0:l 7 with
    | false=>rfl
    | true =>
     have e0':=hcl.dep' o7 e0 4 (by decide)
     have e1':=hcl.dep' o4 e0' 3 (by decide)
     have e2':=hcl.dep' o3 e1' 2 (by decide)
     have e3':=hcl.dep' o2 e2' 0 (by decide)
     rw[hl] at e3'
     cases e3'
   refine wCa (f:=52) (args:=#[]) ho e4 (by simp[execOp,e3,resolve,invoke,Deferred.ofValue,r52,ev,evf,evc]) ((x0 w hw).mono ?_)
   rintro e W ⟨rfl,hb6⟩
   refine⟨_,rfl,?_⟩
   rw[e2]
   refine hI.put (by decide) (d:=22) rfl (Nat.lt_of_lt_of_le (by decide) hs) (inj 22 rfl) ?_ (rfl) (keep (by decide) (hb6))
   refine⟨bTn hw (hb6),k2.put rfl (by rw[hI.size];exact Nat.lt_of_lt_of_le (by decide) hs) (by decide),?_⟩
   dsimp only
   rw[gp 22 _ 24 (by decide),gp 22 _ 21 (by decide),gp 22 _ 25 (by decide),gp 22 _ 3 (by decide)]
   simp only[oth 2 (by decide),oth 3 (by decide),oth 4 (by decide),oth 6 (by decide),oth 7 (by decide)]
   exact hc.below hI9 hb6
  ·obtain⟨o',e1,e2,e3,e4,e5⟩:=o1
   obtain rfl:=sOp ho e1
   have dp:=dPo e5 hdep
   have n9:l 7=false:=by
    cases e0:l 7 with
    | false=>rfl
    | true =>
     have e0':=hcl.dep' o7 e0 4 (by decide)
     have e1':=hcl.dep' o4 e0' 3 (by decide)
     have e2':=hcl.dep' o3 e1' 2 (by decide)
     have e3':=hcl.dep' o2 e2' 1 (by decide)
     rw[hl] at e3'
     cases e3'
   obtain⟨y6,W,r6,hb6,f6⟩:=x1 w
   refine wVa (v:=.slice (some ⟨y6,0,none⟩) 34 34) (w':=W) ho e4 (by simp[execOp,e3,ev,evc,r6]) ?_
   rw[e2]
   refine hI.put (by decide) (d:=23) rfl (Nat.lt_of_lt_of_le (by decide) hs) (inj 23 rfl) ?_ (fun _=>⟨y6,rfl,f6⟩) (keep (by decide) (hb6))
   refine⟨bTn hw (hb6),k2.put rfl (by rw[hI.size];exact Nat.lt_of_lt_of_le (by decide) hs) (by decide),?_⟩
   dsimp only
   rw[gp 23 _ 24 (by decide),gp 23 _ 21 (by decide),gp 23 _ 25 (by decide),gp 23 _ 3 (by decide)]
   simp only[oth 2 (by decide),oth 3 (by decide),oth 4 (by decide),oth 6 (by decide),oth 7 (by decide)]
   exact hc.below hI9 hb6
  ·obtain⟨o',e1,e2,e3,e4,e5⟩:=o2
   obtain rfl:=sOp ho e1
   have dp:=dPo e5 hdep
   have n9:l 7=false:=by
    cases e0:l 7 with
    | false=>rfl
    | true =>
     have e0':=hcl.dep' o7 e0 4 (by decide)
     have e1':=hcl.dep' o4 e0' 3 (by decide)
     have e2':=hcl.dep' o3 e1' 2 (by decide)
     rw[hl] at e2'
     cases e2'
   have V0:a.tmps.getD 22 undef=.agg #[.int .i64 2,.int .i64 1,.int .i64 1,.int .i64 2,.int .i64 1,.int .i64 0,.int .i64 0,.int .i64 0]:=hI.val 0 22 (by decide) rfl (dp 0 (by decide))
   obtain⟨b1,V1,f1⟩:∃ yb,a.tmps.getD 23 undef=.slice (some ⟨yb,0,none⟩) 34 34∧IsS w ⟨some ⟨yb,0,none⟩,34,34⟩ zs:=hI.val 1 23 (by decide) rfl (dp 1 (by decide)) n9
   refine wCa (f:=39) (args:=#[.agg #[.int .i64 2,.int .i64 1,.int .i64 1,.int .i64 2,.int .i64 1,.int .i64 0,.int .i64 0,.int .i64 0],.slice (some ⟨b1,0,none⟩) 34 34]) ho e4 (by simp[execOp,e3,resolve,invoke,Deferred.ofValue,r39,ev,evf,evc,V0,V1]) ((x2 w b1 hw f1).mono ?_)
   rintro e W ⟨t,rfl,ht,hb⟩
   refine⟨_,rfl,?_⟩
   rw[e2]
   refine hI.put (by decide) (d:=24) rfl (Nat.lt_of_lt_of_le (by decide) hs) (inj 24 rfl) ?_ (trivial) (keep (by decide) (hb))
   refine⟨bTn hw (hb),k2.put rfl (by rw[hI.size];exact Nat.lt_of_lt_of_le (by decide) hs) (by decide),?_⟩
   dsimp only
   rw[gp 24 _ 24 (by decide),gp 24 _ 21 (by decide),gp 24 _ 25 (by decide),gp 24 _ 3 (by decide)]
   simp only[oth 3 (by decide),oth 4 (by decide),oth 6 (by decide),oth 7 (by decide),sam]
   exact fun _=>⟨t,w.heap.size,W.heap.size,rfl,(fun e9=>by
     have y:=hcl.dep' o3 e9 2 (by decide)
     rw[hl] at y
     cases y),(fun e9=>by
     have y:=hcl.dep' o3 (hcl.dep' o4 e9 3 (by decide)) 2 (by decide)
     rw[hl] at y
     cases y),hw.size,Nat.le_refl _,ht,(fun e9 b eb=>by
     obtain⟨b2,p1,p2,p3,p4⟩:∃ b,a.tmps.getD 3 undef=.pointer (some ⟨b,0,none⟩)∧w0.heap.size≤b∧b<w.heap.size∧(l 7=false→Blk 27 w b z9):=hI.val 6 3 (by decide) rfl e9
     have:=p1.symm.trans eb
     simp at this
     omega),(fun e9=>by rw[n9] at e9;cases e9)⟩
  ·obtain⟨o',e1,e2,e3,e4,e5⟩:=o3
   obtain rfl:=sOp ho e1
   have dp:=dPo e5 hdep
   have n9:l 7=false:=by
    cases e0:l 7 with
    | false=>rfl
    | true =>
     have e0':=hcl.dep' o7 e0 4 (by decide)
     have e1':=hcl.dep' o4 e0' 3 (by decide)
     rw[hl] at e1'
     cases e1'
   obtain⟨t,lo,hh,Vc,h2,h3,h4,h5,h6,h7,h8⟩:=hc (dp 2 (by decide))
   refine wVa (v:=.tuple #[V t,.int .i64 ee]) (w':=w) ho e4 (by simp[execOp,e3,ev,evc,Vc]) ?_
   rw[e2]
   refine hI.put (by decide) (d:=21) rfl (Nat.lt_of_lt_of_le (by decide) hs) (inj 21 rfl) ?_ (trivial) (keep (by decide) (Below.refl _ _))
   refine⟨hw,k2.put rfl (by rw[hI.size];exact Nat.lt_of_lt_of_le (by decide) hs) (by decide),?_⟩
   dsimp only
   rw[gp 21 _ 24 (by decide),gp 21 _ 21 (by decide),gp 21 _ 25 (by decide),gp 21 _ 3 (by decide)]
   simp only[oth 2 (by decide),oth 4 (by decide),oth 6 (by decide),oth 7 (by decide),sam]
   rw[dp 2 (by decide)] at hc ⊢
   rw[←Vc]
   exact hc.moved
  ·obtain⟨o',e1,e2,e3,e4,e5⟩:=o4
   obtain rfl:=sOp ho e1
   have dp:=dPo e5 hdep
   have n9:l 7=false:=by
    cases e0:l 7 with
    | false=>rfl
    | true =>
     have e0':=hcl.dep' o7 e0 4 (by decide)
     rw[hl] at e0'
     cases e0'
   obtain⟨t,lo,hh,Vc,h2,h3,h4,h5,h6,h7,h8⟩:=hc (hcl.dep' o3 (dp 3 (by decide)) 2 (by decide))
   have Vm:=h2 (dp 3 (by decide))
   refine wVa (v:=V t) (w':=w) ho e4 (by simp[execOp,e3,ev,evc,Vm,Instr.extract]) ?_
   rw[e2]
   refine hI.put (by decide) (d:=25) rfl (Nat.lt_of_lt_of_le (by decide) hs) (inj 25 rfl) ?_ (trivial) (keep (by decide) (Below.refl _ _))
   refine⟨hw,k2.put rfl (by rw[hI.size];exact Nat.lt_of_lt_of_le (by decide) hs) (by decide),?_⟩
   dsimp only
   rw[gp 25 _ 24 (by decide),gp 25 _ 21 (by decide),gp 25 _ 25 (by decide),gp 25 _ 3 (by decide)]
   simp only[oth 2 (by decide),oth 3 (by decide),oth 6 (by decide),oth 7 (by decide),sam]
   exact fun _=>⟨t,lo,hh,Vc,h2,fun _=>rfl,h4,h5,h6,h7,h8⟩
  ·obtain⟨o',e1,e2,e3,e4,e5⟩:=o5
   obtain rfl:=sOp ho e1
   have dp:=dPo e5 hdep
   obtain⟨t,lo,hh,Vc,h2,h3,h4,h5,h6,h7,h8⟩:=hc (hcl.dep' o3 (dp 3 (by decide)) 2 (by decide))
   have Vm:=h2 (dp 3 (by decide))
   refine wVa (v:=.int .i64 ee) (w':=w) ho e4 (by simp[execOp,e3,ev,evc,Vm,Instr.extract]) ?_
   rw[e2]
   refine hI.put (by decide) (d:=26) rfl (Nat.lt_of_lt_of_le (by decide) hs) (inj 26 rfl) ?_ (rfl) (keep (by decide) (Below.refl _ _))
   refine⟨hw,k2.put rfl (by rw[hI.size];exact Nat.lt_of_lt_of_le (by decide) hs) (by decide),?_⟩
   dsimp only
   rw[gp 26 _ 24 (by decide),gp 26 _ 21 (by decide),gp 26 _ 25 (by decide),gp 26 _ 3 (by decide)]
   simp only[oth 2 (by decide),oth 3 (by decide),oth 4 (by decide),oth 6 (by decide),oth 7 (by decide)]
   exact hc
  ·obtain⟨o',e1,e2,e3,e4,e5⟩:=o6
   obtain rfl:=sOp ho e1
   have dp:=dPo e5 hdep
   have n9:l 7=false:=by
    cases e0:l 7 with
    | false=>rfl
    | true =>
     have e0':=hcl.dep' o7 e0 6 (by decide)
     rw[hl] at e0'
     cases e0'
   have hb:=bNw (Below.refl w.heap.size w) (.cells z9 27)
   refine wVa (v:=.pointer (some ⟨w.heap.size,0,none⟩)) (w':=w.alloc (.cells z9 27)) ho e4 (by simp[execOp,e3,xA]) ?_
   rw[e2]
   refine hI.put (by decide) (d:=3) rfl (Nat.lt_of_lt_of_le (by decide) hs) (inj 3 rfl) ?_ (⟨w.heap.size,rfl,hw.size,by simp,fun _=>Blk.new 27 w _⟩) (keep (by decide) (hb))
   refine⟨bTn hw (hb),k2.put rfl (by rw[hI.size];exact Nat.lt_of_lt_of_le (by decide) hs) (by decide),?_⟩
   dsimp only
   rw[gp 3 _ 24 (by decide),gp 3 _ 21 (by decide),gp 3 _ 25 (by decide),gp 3 _ 3 (by decide)]
   simp only[oth 2 (by decide),oth 3 (by decide),oth 4 (by decide),oth 7 (by decide),sam]
   rw[n9] at hc ⊢
   exact hc.lay hI9 _
  ·obtain⟨o',e1,e2,e3,e4,e5⟩:=o7
   obtain rfl:=sOp ho e1
   have dp:=dPo e5 hdep
   obtain⟨b,Va,gb,lb,q⟩:∃ b,a.tmps.getD 3 undef=.pointer (some ⟨b,0,none⟩)∧w0.heap.size≤b∧b<w.heap.size∧(l 7=false→Blk 27 w b z9):=hI.val 6 3 (by decide) rfl (dp 6 (by decide))
   replace q:=q hl
   obtain⟨t,lo,hh,Vc,h2,h3,h4,h5,h6,h7,h8⟩:=hc (hcl.dep' o3 (hcl.dep' o4 (dp 4 (by decide)) 3 (by decide)) 2 (by decide))
   have Vx:=h3 (dp 4 (by decide))
   obtain⟨w',r',q',on,hz⟩:=xS w b t q
   have hb9:Below w0.heap.size w0 w':=Only.below hw gb hw.size on
   refine wSk (w':=w') ho e4 (by simp[execOp,e3,ev,Va,Vx,r']) ?_
   rw[e2]
   refine Inv.none_' hI rfl ⟨hb9,fun s9 hs9=>k2 s9 (fun j hj hl9=>hs9 j hj (by simp[hl9])),?_⟩ (fun j dd hj hD hkj hne hf=>?_)
   ·dsimp only
    simp only[oth 2 (by decide),oth 3 (by decide),oth 4 (by decide),oth 6 (by decide),sam]
    exact fun _=>⟨t,lo,hh,Vc,h2,h3,h4,(by omega),hI9.only h6 on (h7 (dp 6 (by decide)) b Va),h7,fun _=>⟨b,Va,gb,q'⟩⟩
   ·unfold wo2F at hf ⊢
    dsimp only
    rw[sam]
    rcases (show j=0∨j=1∨j=2∨j=3∨j=4∨j=5∨j=6∨j=7∨j=8 by omega) with rfl|rfl|rfl|rfl|rfl|rfl|rfl|rfl|rfl
    ·exact hf
    ·intro e9;cases e9
    ·exact hf
    ·exact hf
    ·exact hf
    ·exact hf
    ·obtain⟨b2,p1,p2,p3,p4⟩:=hf;exact⟨b2,p1,p2,by omega,fun e=>by cases e⟩
    ·exact hf
    ·exact hf
  ·obtain⟨o',e1,e2,e3,e4,e5⟩:=o8
   obtain rfl:=sOp ho e1
   have dp:=dPo e5 hdep
   have V9:a.tmps.getD 26 undef=.int .i64 ee:=hI.val 5 26 (by decide) rfl (dp 5 (by decide))
   refine wVa (v:=.int .i64 ee) (w':=w) ho e4 (by simp[execOp,e3,ev,evc,V9]) ?_
   rw[e2]
   refine hI.put (by decide) (d:=4) rfl (Nat.lt_of_lt_of_le (by decide) hs) (inj 4 rfl) ?_ (rfl) (keep (by decide) (Below.refl _ _))
   refine⟨hw,k2.put rfl (by rw[hI.size];exact Nat.lt_of_lt_of_le (by decide) hs) (by decide),?_⟩
   dsimp only
   rw[gp 4 _ 24 (by decide),gp 4 _ 21 (by decide),gp 4 _ 25 (by decide),gp 4 _ 3 (by decide)]
   simp only[oth 2 (by decide),oth 3 (by decide),oth 4 (by decide),oth 6 (by decide),oth 7 (by decide)]
   exact hc
 ·intro l a w hall hI
  have all:∀ j,j<9→l j=true:=fun j hj=>hall j (by rw[hsz];exact hj)
  obtain⟨hw,k2,hc⟩:Below w0.heap.size w0 w∧Kept2 9 wo2D a0 l a∧CX V cs I 27 ee w0.heap.size (l 2) (l 3) (l 4) (l 6) (l 7) (a.tmps.getD 24 undef) (a.tmps.getD 21 undef) (a.tmps.getD 25 undef) (a.tmps.getD 3 undef) w:=hI.world
  obtain⟨t,lo,hh,Vc,h2,h3,h4,h5,h6,h7,h8⟩:=hc (all 2 (by decide))
  obtain⟨b,y1,y2,y3⟩:=h8 (all 7 (by decide))
  exact fin a w b t lo hh hI.size hI.defers hI.kept y1 (hI.val 8 4 (by decide) rfl (all 8 (by decide))) hw y2 h4 h5 h6 y3
end
end Go.Proofs.YthliomlmhfjhnaaGreat
