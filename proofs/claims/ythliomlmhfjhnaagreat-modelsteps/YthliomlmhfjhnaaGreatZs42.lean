/- Texts put together. -/
import Derived.Test.YthliomlmhfjhnaaGreatZs38
namespace Go.Proofs.YthliomlmhfjhnaaGreat
set_option maxRecDepth 20000
set_option maxHeartbeats 16000000
open Go.ChangeShapes Go.WideShapes Go.ChangeAt Go.RowKit
set_option linter.unusedVariables false
set_option linter.unusedSimpArgs false
def lkD (i:Nat):Option Nat:=match i with|0=>some 17|1=>some 18|2=>some 19|3=>some 20|4=>some 21|5=>some 22|6=>some 23|7=>some 13|8=>some 14|_=>none
theorem lkD_inj:∀ i,i<11→∀ j,j<11→lkD i=lkD j→lkD i≠none→i=j:=by decide
theorem lkD_lt:∀ i,i<11→∀ d,lkD i=some d→d<118:=by
 intro i hi d h
 have:∀ i,i<11→(lkD i).all (fun d=>decide (d<118))=true:=by decide
 have:=this i hi
 rw[h] at this
 simpa using this
def lkF (g:Nat)(M:Md)(E L N O:SL)(Y:Nat→Nat→SL)(B i:Nat)(x:Addr)(k:Nat→Bool)(j:Nat)(q:Value)(w:World):Prop:=match j with
 | 0=>q=.pointer (some ⟨B,0,none⟩)
 | 1=>q=.agg #[.int .i64 M.d,.int .i64 M.h,.int .i64 M.l,.int .i64 M.v,.int .i64 M.u,.int .i64 M.x,.int .i64 M.t,.int .i64 M.n]
 | 2=>q=.pointer (some ⟨B,9,none⟩)
 | 3=>q=.slice (some x) M.m.ln L.c
 | 4=>q=.int .i64 i
 | 5=>q=.pointer (some (x.add (i*9)))
 | 6=>q=.agg #[.slice (Y i 0).a (Y i 0).n (Y i 0).c,.slice (Y i 1).a (Y i 1).n (Y i 1).c,.slice (Y i 2).a (Y i 2).n (Y i 2).c,.slice (Y i 3).a (Y i 3).n (Y i 3).c,.slice (Y i 4).a (Y i 4).n (Y i 4).c,.slice (Y i 5).a (Y i 5).n (Y i 5).c,.slice (Y i 6).a (Y i 6).n (Y i 6).c,.slice (Y i 7).a (Y i 7).n (Y i 7).c,.slice (Y i 8).a (Y i 8).n (Y i 8).c]
 | 7=>∃ b,q=.pointer (some ⟨b,0,none⟩)∧g≤b∧Blk 23 w b (cond (k 9) #[.int .i64 M.d,.int .i64 M.h,.int .i64 M.l,.int .i64 M.v,.int .i64 M.u,.int .i64 M.x,.int .i64 M.t,.int .i64 M.n] #[.int .i64 0,.int .i64 0,.int .i64 0,.int .i64 0,.int .i64 0,.int .i64 0,.int .i64 0,.int .i64 0])
 | 8=>∃ b,q=.pointer (some ⟨b,0,none⟩)∧g≤b∧Blk 65 w b (cond (k 10) #[.slice (Y i 0).a (Y i 0).n (Y i 0).c,.slice (Y i 1).a (Y i 1).n (Y i 1).c,.slice (Y i 2).a (Y i 2).n (Y i 2).c,.slice (Y i 3).a (Y i 3).n (Y i 3).c,.slice (Y i 4).a (Y i 4).n (Y i 4).c,.slice (Y i 5).a (Y i 5).n (Y i 5).c,.slice (Y i 6).a (Y i 6).n (Y i 6).c,.slice (Y i 7).a (Y i 7).n (Y i 7).c,.slice (Y i 8).a (Y i 8).n (Y i 8).c] #[.slice none 0 0,.slice none 0 0,.slice none 0 0,.slice none 0 0,.slice none 0 0,.slice none 0 0,.slice none 0 0,.slice none 0 0,.slice none 0 0])
 | _=>True
theorem lk_region {id:Nat}{ops:Array Oper}{Q:Exit→Act→World→Prop}{a0:Act}{w0:World}(M:Md)(E L N O:SL)(Y:Nat→Nat→SL)(B i:Nat)(x:Addr)(U D:Nat→Nat→SL)(hM:ModAt w0 E L N O Y U D M.m)(hx:L.a=some x)(hi':i<M.m.ln)(hB:Blk 27 w0 B #[.int .i64 M.d,.int .i64 M.h,.int .i64 M.l,.int .i64 M.v,.int .i64 M.u,.int .i64 M.x,.int .i64 M.t,.int .i64 M.n,.slice E.a E.n E.c,.slice (some x) M.m.ln L.c,.slice N.a N.n N.c,.slice O.a O.n O.c])
  (hlow:lowB ops=true) (hsz:ops.size=11)
  (o0:OpIn ops 0 (some 17) (.fieldAddr 27 (.tmp 5) 0) none []) (o1:OpIn ops 1 (some 18) (.load 23 (.tmp 17)) none [0]) (o2:OpIn ops 2 (some 19) (.fieldAddr 27 (.tmp 5) 2) none []) (o3:OpIn ops 3 (some 20) (.load 25 (.tmp 19)) none [2]) (o4:OpIn ops 4 (some 21) (.move (.tmp 2)) none []) (o5:OpIn ops 5 (some 22) (.indexAddr 25 (.tmp 20) (.tmp 21)) none [3,4]) (o6:OpIn ops 6 (some 23) (.load 65 (.tmp 22)) none [5]) (o7:OpIn ops 7 (some 13) (.alloc 23) none []) (o8:OpIn ops 8 (some 14) (.alloc 65) none []) (o9:OpIn ops 9 none (.store 23 (.tmp 13) (.tmp 18)) none [1,7]) (o10:OpIn ops 10 none (.store 65 (.tmp 14) (.tmp 23)) none [6,8])
  (ub:a0.tmps.getD 5 undef=.pointer (some ⟨B,0,none⟩)) (ui:a0.tmps.getD 2 undef=.int .i64 i)
  (hs:118≤a0.tmps.size)
  (fin:∀ a w cb lb,a.tmps.size=a0.tmps.size→a.defers=a0.defers→(∀ s,(∀ i,i<11→lkD i≠some s)→a.tmps.getD s undef=a0.tmps.getD s undef)→a.tmps.getD 13 undef=.pointer (some ⟨cb,0,none⟩)→a.tmps.getD 14 undef=.pointer (some ⟨lb,0,none⟩)→Below w0.heap.size w0 w→Blk 23 w cb #[.int .i64 M.d,.int .i64 M.h,.int .i64 M.l,.int .i64 M.v,.int .i64 M.u,.int .i64 M.x,.int .i64 M.t,.int .i64 M.n]→Blk 65 w lb #[.slice (Y i 0).a (Y i 0).n (Y i 0).c,.slice (Y i 1).a (Y i 1).n (Y i 1).c,.slice (Y i 2).a (Y i 2).n (Y i 2).c,.slice (Y i 3).a (Y i 3).n (Y i 3).c,.slice (Y i 4).a (Y i 4).n (Y i 4).c,.slice (Y i 5).a (Y i 5).n (Y i 5).c,.slice (Y i 6).a (Y i 6).n (Y i 6).c,.slice (Y i 7).a (Y i 7).n (Y i 7).c,.slice (Y i 8).a (Y i 8).n (Y i 8).c]→Q .normal a w):(Code.region id ops true).wp Tryz.prog Q a0 w0:=by
 refine wRi (by kernel_rfl) hlow (Inv 11 lkD a0 (fun _ _ w=>Below w0.heap.size w0 w) (lkF w0.heap.size M E L N O Y B i x)) (Inv.start (Below.refl _ _).drew) ?_ ?_
 ·intro k i' o a w ho hl hcl hdep hI
  have hi:i'<11:=by rw[←hsz];exact (Array.getElem?_eq_some_iff.1 ho).1
  have ev:∀ (s:Nat),a.eval (.tmp s)=a.tmps.getD s undef:=fun _=>rfl
  have inj:∀ d,lkD i'=some d→∀ j d',j<11→lkD j=some d'→j≠i'→d'≠d:=fun d hd j d' hj hd' hne e=>hne (lkD_inj j hj i' hi (by rw[hd',hd,e]) (by rw[hd'];simp))
  have kp:∀ s,(∀ i,i<11→lkD i≠some s)→a.tmps.getD s undef=a0.tmps.getD s undef:=hI.kept
  have hw:Below w0.heap.size w0 w:=hI.world
  have oth:∀ j,j≠i'→(k j || j==i')=k j:=fun j hj=>by rw[show (j==i')=false by simp[hj],Bool.or_false]
  have sam:(k i' || i'==i')=true:=by simp
  have U1:a.tmps.getD 5 undef=.pointer (some ⟨B,0,none⟩):=(kp 5 (by decide)).trans ub
  have U2:a.tmps.getD 2 undef=.int .i64 i:=(kp 2 (by decide)).trans ui
  have qB:=hB.kept hw
  have hM':=hM.below hw
  have go:∀ {d:Nat}{v:Value}{w':World},lkD i'=some d→i'≠9∧i'≠10→Below w.heap.size w w'→lkF w0.heap.size M E L N O Y B i x (fun j=>k j || j==i') i' v w'→Inv 11 lkD a0 (fun _ _ w=>Below w0.heap.size w0 w) (lkF w0.heap.size M E L N O Y B i x) (fun j=>k j || j==i') (a.put (some d) v) w':=by
   intro d v w' hD hn hb hF
   refine hI.put hi hD (Nat.lt_of_lt_of_le (lkD_lt i' hi d hD) hs) (inj d hD) (bTn hw hb) hF (fun j u hj _ _ hf=>?_)
   unfold lkF at hf ⊢
   dsimp only
   rw[oth 9 (fun e=>hn.1 e.symm),oth 10 (fun e=>hn.2 e.symm)]
   rcases (show j=0∨j=1∨j=2∨j=3∨j=4∨j=5∨j=6∨j=7∨j=8∨j=9∨j=10 by omega) with rfl|rfl|rfl|rfl|rfl|rfl|rfl|rfl|rfl|rfl|rfl<;>first
    | exact hf
    | (obtain⟨b,q1,q0,q2⟩:=hf;exact⟨b,q1,q0,q2.kept hb⟩)
  rcases (show i'=0∨i'=1∨i'=2∨i'=3∨i'=4∨i'=5∨i'=6∨i'=7∨i'=8∨i'=9∨i'=10 by omega) with rfl|rfl|rfl|rfl|rfl|rfl|rfl|rfl|rfl|rfl|rfl
  ·obtain⟨o',e1,e2,e3,e4,e5⟩:=o0
   obtain rfl:=sOp ho e1
   have dp:=dPo e5 hdep
   exact wVa (v:=.pointer (some ⟨B,0,none⟩)) (w':=w) ho e4 (by simp[execOp,e3,ev,U1,run_field27 B 0 0 (by omega)]) (by rw[e2];exact go rfl (by decide) (Below.refl _ _) rfl)
  ·obtain⟨o',e1,e2,e3,e4,e5⟩:=o1
   obtain rfl:=sOp ho e1
   have dp:=dPo e5 hdep
   have V0:a.tmps.getD 17 undef=.pointer (some ⟨B,0,none⟩):=hI.val 0 17 (by decide) rfl (dp 0 (by decide))
   exact wVa (v:=.agg #[.int .i64 M.d,.int .i64 M.h,.int .i64 M.l,.int .i64 M.v,.int .i64 M.u,.int .i64 M.x,.int .i64 M.t,.int .i64 M.n]) (w':=w) ho e4 (by simp[execOp,e3,ev,V0,run_cfg12 qB]) (by rw[e2];exact go rfl (by decide) (Below.refl _ _) rfl)
  ·obtain⟨o',e1,e2,e3,e4,e5⟩:=o2
   obtain rfl:=sOp ho e1
   have dp:=dPo e5 hdep
   exact wVa (v:=.pointer (some ⟨B,9,none⟩)) (w':=w) ho e4 (by simp[execOp,e3,ev,U1,run_field27 B 2 9 (by omega)]) (by rw[e2];exact go rfl (by decide) (Below.refl _ _) rfl)
  ·obtain⟨o',e1,e2,e3,e4,e5⟩:=o3
   obtain rfl:=sOp ho e1
   have dp:=dPo e5 hdep
   have V2:a.tmps.getD 19 undef=.pointer (some ⟨B,9,none⟩):=hI.val 2 19 (by decide) rfl (dp 2 (by decide))
   have c9:w.cell? ⟨B,9,none⟩=some (.slice (some x) M.m.ln L.c):=qB.cell 9 rfl
   exact wVa (v:=.slice (some x) M.m.ln L.c) (w':=w) ho e4 (by simp[execOp,e3,ev,V2,run_load25 c9]) (by rw[e2];exact go rfl (by decide) (Below.refl _ _) rfl)
  ·obtain⟨o',e1,e2,e3,e4,e5⟩:=o4
   obtain rfl:=sOp ho e1
   have dp:=dPo e5 hdep
   exact wVa (v:=.int .i64 i) (w':=w) ho e4 (by simp[execOp,e3,ev,U2]) (by rw[e2];exact go rfl (by decide) (Below.refl _ _) rfl)
  ·obtain⟨o',e1,e2,e3,e4,e5⟩:=o5
   obtain rfl:=sOp ho e1
   have dp:=dPo e5 hdep
   have V3:a.tmps.getD 20 undef=.slice (some x) M.m.ln L.c:=hI.val 3 20 (by decide) rfl (dp 3 (by decide))
   have V4:a.tmps.getD 21 undef=.int .i64 i:=hI.val 4 21 (by decide) rfl (dp 4 (by decide))
   exact wVa (v:=.pointer (some (x.add (i*9)))) (w':=w) ho e4 (by simp[execOp,e3,ev,V3,V4,run_index25 hi' w]) (by rw[e2];exact go rfl (by decide) (Below.refl _ _) rfl)
  ·obtain⟨o',e1,e2,e3,e4,e5⟩:=o6
   obtain rfl:=sOp ho e1
   have dp:=dPo e5 hdep
   have V5:a.tmps.getD 22 undef=.pointer (some (x.add (i*9))):=hI.val 5 22 (by decide) rfl (dp 5 (by decide))
   exact wVa (v:=.agg #[.slice (Y i 0).a (Y i 0).n (Y i 0).c,.slice (Y i 1).a (Y i 1).n (Y i 1).c,.slice (Y i 2).a (Y i 2).n (Y i 2).c,.slice (Y i 3).a (Y i 3).n (Y i 3).c,.slice (Y i 4).a (Y i 4).n (Y i 4).c,.slice (Y i 5).a (Y i 5).n (Y i 5).c,.slice (Y i 6).a (Y i 6).n (Y i 6).c,.slice (Y i 7).a (Y i 7).n (Y i 7).c,.slice (Y i 8).a (Y i 8).n (Y i 8).c]) (w':=w) ho e4 (by simp[execOp,e3,ev,V5,run_load65 (y:=Y i) (fun j hj=>hM'.cell x hx i hi' j hj)]) (by rw[e2];exact go rfl (by decide) (Below.refl _ _) rfl)
  ·obtain⟨o',e1,e2,e3,e4,e5⟩:=o7
   obtain rfl:=sOp ho e1
   have dp:=dPo e5 hdep
   have nd:k 9=false:=by
    cases e:k 9 with
    | false=>rfl
    | true =>
     have y:=hcl.dep' o9 e 7 (by decide)
     rw[hl] at y
     cases y
   refine wVa (v:=.pointer (some ⟨w.heap.size,0,none⟩)) (w':=w.alloc (.cells #[.int .i64 0,.int .i64 0,.int .i64 0,.int .i64 0,.int .i64 0,.int .i64 0,.int .i64 0,.int .i64 0] 23)) ho e4 (by simp[execOp,e3,run_alloc23]) ?_
   rw[e2]
   refine go rfl (by decide) (bNw (Below.refl _ _) _) ⟨w.heap.size,rfl,hw.size,?_⟩
   dsimp only
   rw[oth 9 (by decide),nd]
   exact Blk.new 23 w _
  ·obtain⟨o',e1,e2,e3,e4,e5⟩:=o8
   obtain rfl:=sOp ho e1
   have dp:=dPo e5 hdep
   have nd:k 10=false:=by
    cases e:k 10 with
    | false=>rfl
    | true =>
     have y:=hcl.dep' o10 e 8 (by decide)
     rw[hl] at y
     cases y
   refine wVa (v:=.pointer (some ⟨w.heap.size,0,none⟩)) (w':=w.alloc (.cells #[.slice none 0 0,.slice none 0 0,.slice none 0 0,.slice none 0 0,.slice none 0 0,.slice none 0 0,.slice none 0 0,.slice none 0 0,.slice none 0 0] 65)) ho e4 (by simp[execOp,e3,run_alloc65]) ?_
   rw[e2]
   refine go rfl (by decide) (bNw (Below.refl _ _) _) ⟨w.heap.size,rfl,hw.size,?_⟩
   dsimp only
   rw[oth 10 (by decide),nd]
   exact Blk.new 65 w _
  ·obtain⟨o',e1,e2,e3,e4,e5⟩:=o9
   obtain rfl:=sOp ho e1
   have dp:=dPo e5 hdep
   have V1:a.tmps.getD 18 undef=.agg #[.int .i64 M.d,.int .i64 M.h,.int .i64 M.l,.int .i64 M.v,.int .i64 M.u,.int .i64 M.x,.int .i64 M.t,.int .i64 M.n]:=hI.val 1 18 (by decide) rfl (dp 1 (by decide))
   obtain⟨b,V7,bge,q⟩:∃ b,a.tmps.getD 13 undef=.pointer (some ⟨b,0,none⟩)∧w0.heap.size≤b∧Blk 23 w b (cond (k 9) #[.int .i64 M.d,.int .i64 M.h,.int .i64 M.l,.int .i64 M.v,.int .i64 M.u,.int .i64 M.x,.int .i64 M.t,.int .i64 M.n] #[.int .i64 0,.int .i64 0,.int .i64 0,.int .i64 0,.int .i64 0,.int .i64 0,.int .i64 0,.int .i64 0]):=hI.val 7 13 (by decide) rfl (dp 7 (by decide))
   rw[hl] at q
   obtain⟨w',r',q',on⟩:=run_store23 q M.d M.h M.l M.v M.u M.x M.t M.n
   refine wSk (w':=w') ho e4 (by simp[execOp,e3,ev,V7,V1,r']) ?_
   rw[e2]
   refine Inv.none_' hI rfl (Only.below hw bge hw.size on) (fun j dd hj hD hkj hne hf=>?_)
   rcases (show j=0∨j=1∨j=2∨j=3∨j=4∨j=5∨j=6∨j=7∨j=8∨j=9∨j=10 by omega) with rfl|rfl|rfl|rfl|rfl|rfl|rfl|rfl|rfl|rfl|rfl
   ·exact hf
   ·exact hf
   ·exact hf
   ·exact hf
   ·exact hf
   ·exact hf
   ·exact hf
   ·obtain⟨b2,p1,p0,p2⟩:=hf
    have eb:b2=b:=by
     obtain rfl:=Option.some.inj hD
     have:=V7.symm.trans p1
     simp at this
     exact this.symm
    subst eb
    refine⟨b2,p1,p0,?_⟩
    dsimp only
    rw[sam]
    exact q'
   ·obtain⟨b2,p1,p0,p2⟩:=hf
    refine⟨b2,p1,p0,?_⟩
    dsimp only
    rw[oth 10 (by decide)]
    exact p2.only on (p2.apart q (by decide))
   ·trivial
   ·trivial
  ·obtain⟨o',e1,e2,e3,e4,e5⟩:=o10
   obtain rfl:=sOp ho e1
   have dp:=dPo e5 hdep
   have V6:a.tmps.getD 23 undef=.agg #[.slice (Y i 0).a (Y i 0).n (Y i 0).c,.slice (Y i 1).a (Y i 1).n (Y i 1).c,.slice (Y i 2).a (Y i 2).n (Y i 2).c,.slice (Y i 3).a (Y i 3).n (Y i 3).c,.slice (Y i 4).a (Y i 4).n (Y i 4).c,.slice (Y i 5).a (Y i 5).n (Y i 5).c,.slice (Y i 6).a (Y i 6).n (Y i 6).c,.slice (Y i 7).a (Y i 7).n (Y i 7).c,.slice (Y i 8).a (Y i 8).n (Y i 8).c]:=hI.val 6 23 (by decide) rfl (dp 6 (by decide))
   obtain⟨b,V8,bge,q⟩:∃ b,a.tmps.getD 14 undef=.pointer (some ⟨b,0,none⟩)∧w0.heap.size≤b∧Blk 65 w b (cond (k 10) #[.slice (Y i 0).a (Y i 0).n (Y i 0).c,.slice (Y i 1).a (Y i 1).n (Y i 1).c,.slice (Y i 2).a (Y i 2).n (Y i 2).c,.slice (Y i 3).a (Y i 3).n (Y i 3).c,.slice (Y i 4).a (Y i 4).n (Y i 4).c,.slice (Y i 5).a (Y i 5).n (Y i 5).c,.slice (Y i 6).a (Y i 6).n (Y i 6).c,.slice (Y i 7).a (Y i 7).n (Y i 7).c,.slice (Y i 8).a (Y i 8).n (Y i 8).c] #[.slice none 0 0,.slice none 0 0,.slice none 0 0,.slice none 0 0,.slice none 0 0,.slice none 0 0,.slice none 0 0,.slice none 0 0,.slice none 0 0]):=hI.val 8 14 (by decide) rfl (dp 8 (by decide))
   rw[hl] at q
   obtain⟨w',r',q',on⟩:=run_store65 q (Y i)
   refine wSk (w':=w') ho e4 (by simp[execOp,e3,ev,V8,V6,r']) ?_
   rw[e2]
   refine Inv.none_' hI rfl (Only.below hw bge hw.size on) (fun j dd hj hD hkj hne hf=>?_)
   rcases (show j=0∨j=1∨j=2∨j=3∨j=4∨j=5∨j=6∨j=7∨j=8∨j=9∨j=10 by omega) with rfl|rfl|rfl|rfl|rfl|rfl|rfl|rfl|rfl|rfl|rfl
   ·exact hf
   ·exact hf
   ·exact hf
   ·exact hf
   ·exact hf
   ·exact hf
   ·exact hf
   ·obtain⟨b2,p1,p0,p2⟩:=hf
    refine⟨b2,p1,p0,?_⟩
    dsimp only
    rw[oth 9 (by decide)]
    exact p2.only on (p2.apart q (by decide))
   ·obtain⟨b2,p1,p0,p2⟩:=hf
    have eb:b2=b:=by
     obtain rfl:=Option.some.inj hD
     have:=V8.symm.trans p1
     simp at this
     exact this.symm
    subst eb
    refine⟨b2,p1,p0,?_⟩
    dsimp only
    rw[sam]
    exact q'
   ·trivial
   ·trivial
 ·intro k a w hall hI
  have all:∀ j,j<11→k j=true:=fun j hj=>hall j (by rw[hsz];exact hj)
  obtain⟨cb,v1,-,q1⟩:∃ b,a.tmps.getD 13 undef=.pointer (some ⟨b,0,none⟩)∧w0.heap.size≤b∧Blk 23 w b (cond (k 9) #[.int .i64 M.d,.int .i64 M.h,.int .i64 M.l,.int .i64 M.v,.int .i64 M.u,.int .i64 M.x,.int .i64 M.t,.int .i64 M.n] #[.int .i64 0,.int .i64 0,.int .i64 0,.int .i64 0,.int .i64 0,.int .i64 0,.int .i64 0,.int .i64 0]):=hI.val 7 13 (by decide) rfl (all 7 (by decide))
  obtain⟨lb,v2,-,q2⟩:∃ b,a.tmps.getD 14 undef=.pointer (some ⟨b,0,none⟩)∧w0.heap.size≤b∧Blk 65 w b (cond (k 10) #[.slice (Y i 0).a (Y i 0).n (Y i 0).c,.slice (Y i 1).a (Y i 1).n (Y i 1).c,.slice (Y i 2).a (Y i 2).n (Y i 2).c,.slice (Y i 3).a (Y i 3).n (Y i 3).c,.slice (Y i 4).a (Y i 4).n (Y i 4).c,.slice (Y i 5).a (Y i 5).n (Y i 5).c,.slice (Y i 6).a (Y i 6).n (Y i 6).c,.slice (Y i 7).a (Y i 7).n (Y i 7).c,.slice (Y i 8).a (Y i 8).n (Y i 8).c] #[.slice none 0 0,.slice none 0 0,.slice none 0 0,.slice none 0 0,.slice none 0 0,.slice none 0 0,.slice none 0 0,.slice none 0 0,.slice none 0 0]):=hI.val 8 14 (by decide) rfl (all 8 (by decide))
  rw[all 9 (by decide)] at q1
  rw[all 10 (by decide)] at q2
  exact fin a w cb lb hI.size hI.defers hI.kept v1 v2 hI.world q1 q2
def wkD (i:Nat):Option Nat:=match i with|0=>some 12|1=>some 13|2=>some 14|3=>some 15|4=>some 16|5=>some 17|6=>some 18|7=>some 9|8=>some 10|_=>none
theorem wkD_inj:∀ i,i<11→∀ j,j<11→wkD i=wkD j→wkD i≠none→i=j:=by decide
theorem wkD_lt:∀ i,i<11→∀ d,wkD i=some d→d<60:=by
 intro i hi d h
 have:∀ i,i<11→(wkD i).all (fun d=>decide (d<60))=true:=by decide
 have:=this i hi
 rw[h] at this
 simpa using this
def wkF (g:Nat)(M:Md)(E L N O:SL)(Y:Nat→Nat→SL)(B i:Nat)(x:Addr)(k:Nat→Bool)(j:Nat)(q:Value)(w:World):Prop:=match j with
 | 0=>q=.pointer (some ⟨B,0,none⟩)
 | 1=>q=.agg #[.int .i64 M.d,.int .i64 M.h,.int .i64 M.l,.int .i64 M.v,.int .i64 M.u,.int .i64 M.x,.int .i64 M.t,.int .i64 M.n]
 | 2=>q=.pointer (some ⟨B,9,none⟩)
 | 3=>q=.slice (some x) M.m.ln L.c
 | 4=>q=.int .i64 i
 | 5=>q=.pointer (some (x.add (i*9)))
 | 6=>q=.agg #[.slice (Y i 0).a (Y i 0).n (Y i 0).c,.slice (Y i 1).a (Y i 1).n (Y i 1).c,.slice (Y i 2).a (Y i 2).n (Y i 2).c,.slice (Y i 3).a (Y i 3).n (Y i 3).c,.slice (Y i 4).a (Y i 4).n (Y i 4).c,.slice (Y i 5).a (Y i 5).n (Y i 5).c,.slice (Y i 6).a (Y i 6).n (Y i 6).c,.slice (Y i 7).a (Y i 7).n (Y i 7).c,.slice (Y i 8).a (Y i 8).n (Y i 8).c]
 | 7=>∃ b,q=.pointer (some ⟨b,0,none⟩)∧g≤b∧Blk 23 w b (cond (k 9) #[.int .i64 M.d,.int .i64 M.h,.int .i64 M.l,.int .i64 M.v,.int .i64 M.u,.int .i64 M.x,.int .i64 M.t,.int .i64 M.n] #[.int .i64 0,.int .i64 0,.int .i64 0,.int .i64 0,.int .i64 0,.int .i64 0,.int .i64 0,.int .i64 0])
 | 8=>∃ b,q=.pointer (some ⟨b,0,none⟩)∧g≤b∧Blk 65 w b (cond (k 10) #[.slice (Y i 0).a (Y i 0).n (Y i 0).c,.slice (Y i 1).a (Y i 1).n (Y i 1).c,.slice (Y i 2).a (Y i 2).n (Y i 2).c,.slice (Y i 3).a (Y i 3).n (Y i 3).c,.slice (Y i 4).a (Y i 4).n (Y i 4).c,.slice (Y i 5).a (Y i 5).n (Y i 5).c,.slice (Y i 6).a (Y i 6).n (Y i 6).c,.slice (Y i 7).a (Y i 7).n (Y i 7).c,.slice (Y i 8).a (Y i 8).n (Y i 8).c] #[.slice none 0 0,.slice none 0 0,.slice none 0 0,.slice none 0 0,.slice none 0 0,.slice none 0 0,.slice none 0 0,.slice none 0 0,.slice none 0 0])
 | _=>True
theorem wk_region {id:Nat}{ops:Array Oper}{Q:Exit→Act→World→Prop}{a0:Act}{w0:World}(M:Md)(E L N O:SL)(Y:Nat→Nat→SL)(B i:Nat)(x:Addr)(U D:Nat→Nat→SL)(hM:ModAt w0 E L N O Y U D M.m)(hx:L.a=some x)(hi':i<M.m.ln)(hB:Blk 27 w0 B #[.int .i64 M.d,.int .i64 M.h,.int .i64 M.l,.int .i64 M.v,.int .i64 M.u,.int .i64 M.x,.int .i64 M.t,.int .i64 M.n,.slice E.a E.n E.c,.slice (some x) M.m.ln L.c,.slice N.a N.n N.c,.slice O.a O.n O.c])
  (hlow:lowB ops=true) (hsz:ops.size=11)
  (o0:OpIn ops 0 (some 12) (.fieldAddr 27 (.tmp 4) 0) none []) (o1:OpIn ops 1 (some 13) (.load 23 (.tmp 12)) none [0]) (o2:OpIn ops 2 (some 14) (.fieldAddr 27 (.tmp 4) 2) none []) (o3:OpIn ops 3 (some 15) (.load 25 (.tmp 14)) none [2]) (o4:OpIn ops 4 (some 16) (.move (.tmp 1)) none []) (o5:OpIn ops 5 (some 17) (.indexAddr 25 (.tmp 15) (.tmp 16)) none [3,4]) (o6:OpIn ops 6 (some 18) (.load 65 (.tmp 17)) none [5]) (o7:OpIn ops 7 (some 9) (.alloc 23) none []) (o8:OpIn ops 8 (some 10) (.alloc 65) none []) (o9:OpIn ops 9 none (.store 23 (.tmp 9) (.tmp 13)) none [1,7]) (o10:OpIn ops 10 none (.store 65 (.tmp 10) (.tmp 18)) none [6,8])
  (ub:a0.tmps.getD 4 undef=.pointer (some ⟨B,0,none⟩)) (ui:a0.tmps.getD 1 undef=.int .i64 i)
  (hs:60≤a0.tmps.size)
  (fin:∀ a w cb lb,a.tmps.size=a0.tmps.size→a.defers=a0.defers→(∀ s,(∀ i,i<11→wkD i≠some s)→a.tmps.getD s undef=a0.tmps.getD s undef)→a.tmps.getD 9 undef=.pointer (some ⟨cb,0,none⟩)→a.tmps.getD 10 undef=.pointer (some ⟨lb,0,none⟩)→Below w0.heap.size w0 w→Blk 23 w cb #[.int .i64 M.d,.int .i64 M.h,.int .i64 M.l,.int .i64 M.v,.int .i64 M.u,.int .i64 M.x,.int .i64 M.t,.int .i64 M.n]→Blk 65 w lb #[.slice (Y i 0).a (Y i 0).n (Y i 0).c,.slice (Y i 1).a (Y i 1).n (Y i 1).c,.slice (Y i 2).a (Y i 2).n (Y i 2).c,.slice (Y i 3).a (Y i 3).n (Y i 3).c,.slice (Y i 4).a (Y i 4).n (Y i 4).c,.slice (Y i 5).a (Y i 5).n (Y i 5).c,.slice (Y i 6).a (Y i 6).n (Y i 6).c,.slice (Y i 7).a (Y i 7).n (Y i 7).c,.slice (Y i 8).a (Y i 8).n (Y i 8).c]→Q .normal a w):(Code.region id ops true).wp Tryz.prog Q a0 w0:=by
 refine wRi (by kernel_rfl) hlow (Inv 11 wkD a0 (fun _ _ w=>Below w0.heap.size w0 w) (wkF w0.heap.size M E L N O Y B i x)) (Inv.start (Below.refl _ _).drew) ?_ ?_
 ·intro k i' o a w ho hl hcl hdep hI
  have hi:i'<11:=by rw[←hsz];exact (Array.getElem?_eq_some_iff.1 ho).1
  have ev:∀ (s:Nat),a.eval (.tmp s)=a.tmps.getD s undef:=fun _=>rfl
  have inj:∀ d,wkD i'=some d→∀ j d',j<11→wkD j=some d'→j≠i'→d'≠d:=fun d hd j d' hj hd' hne e=>hne (wkD_inj j hj i' hi (by rw[hd',hd,e]) (by rw[hd'];simp))
  have kp:∀ s,(∀ i,i<11→wkD i≠some s)→a.tmps.getD s undef=a0.tmps.getD s undef:=hI.kept
  have hw:Below w0.heap.size w0 w:=hI.world
  have oth:∀ j,j≠i'→(k j || j==i')=k j:=fun j hj=>by rw[show (j==i')=false by simp[hj],Bool.or_false]
  have sam:(k i' || i'==i')=true:=by simp
  have U1:a.tmps.getD 4 undef=.pointer (some ⟨B,0,none⟩):=(kp 4 (by decide)).trans ub
  have U2:a.tmps.getD 1 undef=.int .i64 i:=(kp 1 (by decide)).trans ui
  have qB:=hB.kept hw
  have hM':=hM.below hw
  have go:∀ {d:Nat}{v:Value}{w':World},wkD i'=some d→i'≠9∧i'≠10→Below w.heap.size w w'→wkF w0.heap.size M E L N O Y B i x (fun j=>k j || j==i') i' v w'→Inv 11 wkD a0 (fun _ _ w=>Below w0.heap.size w0 w) (wkF w0.heap.size M E L N O Y B i x) (fun j=>k j || j==i') (a.put (some d) v) w':=by
   intro d v w' hD hn hb hF
   refine hI.put hi hD (Nat.lt_of_lt_of_le (wkD_lt i' hi d hD) hs) (inj d hD) (bTn hw hb) hF (fun j u hj _ _ hf=>?_)
   unfold wkF at hf ⊢
   dsimp only
   rw[oth 9 (fun e=>hn.1 e.symm),oth 10 (fun e=>hn.2 e.symm)]
   rcases (show j=0∨j=1∨j=2∨j=3∨j=4∨j=5∨j=6∨j=7∨j=8∨j=9∨j=10 by omega) with rfl|rfl|rfl|rfl|rfl|rfl|rfl|rfl|rfl|rfl|rfl<;>first
    | exact hf
    | (obtain⟨b,q1,q0,q2⟩:=hf;exact⟨b,q1,q0,q2.kept hb⟩)
  rcases (show i'=0∨i'=1∨i'=2∨i'=3∨i'=4∨i'=5∨i'=6∨i'=7∨i'=8∨i'=9∨i'=10 by omega) with rfl|rfl|rfl|rfl|rfl|rfl|rfl|rfl|rfl|rfl|rfl
  ·obtain⟨o',e1,e2,e3,e4,e5⟩:=o0
   obtain rfl:=sOp ho e1
   have dp:=dPo e5 hdep
   exact wVa (v:=.pointer (some ⟨B,0,none⟩)) (w':=w) ho e4 (by simp[execOp,e3,ev,U1,run_field27 B 0 0 (by omega)]) (by rw[e2];exact go rfl (by decide) (Below.refl _ _) rfl)
  ·obtain⟨o',e1,e2,e3,e4,e5⟩:=o1
   obtain rfl:=sOp ho e1
   have dp:=dPo e5 hdep
   have V0:a.tmps.getD 12 undef=.pointer (some ⟨B,0,none⟩):=hI.val 0 12 (by decide) rfl (dp 0 (by decide))
   exact wVa (v:=.agg #[.int .i64 M.d,.int .i64 M.h,.int .i64 M.l,.int .i64 M.v,.int .i64 M.u,.int .i64 M.x,.int .i64 M.t,.int .i64 M.n]) (w':=w) ho e4 (by simp[execOp,e3,ev,V0,run_cfg12 qB]) (by rw[e2];exact go rfl (by decide) (Below.refl _ _) rfl)
  ·obtain⟨o',e1,e2,e3,e4,e5⟩:=o2
   obtain rfl:=sOp ho e1
   have dp:=dPo e5 hdep
   exact wVa (v:=.pointer (some ⟨B,9,none⟩)) (w':=w) ho e4 (by simp[execOp,e3,ev,U1,run_field27 B 2 9 (by omega)]) (by rw[e2];exact go rfl (by decide) (Below.refl _ _) rfl)
  ·obtain⟨o',e1,e2,e3,e4,e5⟩:=o3
   obtain rfl:=sOp ho e1
   have dp:=dPo e5 hdep
   have V2:a.tmps.getD 14 undef=.pointer (some ⟨B,9,none⟩):=hI.val 2 14 (by decide) rfl (dp 2 (by decide))
   have c9:w.cell? ⟨B,9,none⟩=some (.slice (some x) M.m.ln L.c):=qB.cell 9 rfl
   exact wVa (v:=.slice (some x) M.m.ln L.c) (w':=w) ho e4 (by simp[execOp,e3,ev,V2,run_load25 c9]) (by rw[e2];exact go rfl (by decide) (Below.refl _ _) rfl)
  ·obtain⟨o',e1,e2,e3,e4,e5⟩:=o4
   obtain rfl:=sOp ho e1
   have dp:=dPo e5 hdep
   exact wVa (v:=.int .i64 i) (w':=w) ho e4 (by simp[execOp,e3,ev,U2]) (by rw[e2];exact go rfl (by decide) (Below.refl _ _) rfl)
  ·obtain⟨o',e1,e2,e3,e4,e5⟩:=o5
   obtain rfl:=sOp ho e1
   have dp:=dPo e5 hdep
   have V3:a.tmps.getD 15 undef=.slice (some x) M.m.ln L.c:=hI.val 3 15 (by decide) rfl (dp 3 (by decide))
   have V4:a.tmps.getD 16 undef=.int .i64 i:=hI.val 4 16 (by decide) rfl (dp 4 (by decide))
   exact wVa (v:=.pointer (some (x.add (i*9)))) (w':=w) ho e4 (by simp[execOp,e3,ev,V3,V4,run_index25 hi' w]) (by rw[e2];exact go rfl (by decide) (Below.refl _ _) rfl)
  ·obtain⟨o',e1,e2,e3,e4,e5⟩:=o6
   obtain rfl:=sOp ho e1
   have dp:=dPo e5 hdep
   have V5:a.tmps.getD 17 undef=.pointer (some (x.add (i*9))):=hI.val 5 17 (by decide) rfl (dp 5 (by decide))
   exact wVa (v:=.agg #[.slice (Y i 0).a (Y i 0).n (Y i 0).c,.slice (Y i 1).a (Y i 1).n (Y i 1).c,.slice (Y i 2).a (Y i 2).n (Y i 2).c,.slice (Y i 3).a (Y i 3).n (Y i 3).c,.slice (Y i 4).a (Y i 4).n (Y i 4).c,.slice (Y i 5).a (Y i 5).n (Y i 5).c,.slice (Y i 6).a (Y i 6).n (Y i 6).c,.slice (Y i 7).a (Y i 7).n (Y i 7).c,.slice (Y i 8).a (Y i 8).n (Y i 8).c]) (w':=w) ho e4 (by simp[execOp,e3,ev,V5,run_load65 (y:=Y i) (fun j hj=>hM'.cell x hx i hi' j hj)]) (by rw[e2];exact go rfl (by decide) (Below.refl _ _) rfl)
  ·obtain⟨o',e1,e2,e3,e4,e5⟩:=o7
   obtain rfl:=sOp ho e1
   have dp:=dPo e5 hdep
   have nd:k 9=false:=by
    cases e:k 9 with
    | false=>rfl
    | true =>
     have y:=hcl.dep' o9 e 7 (by decide)
     rw[hl] at y
     cases y
   refine wVa (v:=.pointer (some ⟨w.heap.size,0,none⟩)) (w':=w.alloc (.cells #[.int .i64 0,.int .i64 0,.int .i64 0,.int .i64 0,.int .i64 0,.int .i64 0,.int .i64 0,.int .i64 0] 23)) ho e4 (by simp[execOp,e3,run_alloc23]) ?_
   rw[e2]
   refine go rfl (by decide) (bNw (Below.refl _ _) _) ⟨w.heap.size,rfl,hw.size,?_⟩
   dsimp only
   rw[oth 9 (by decide),nd]
   exact Blk.new 23 w _
  ·obtain⟨o',e1,e2,e3,e4,e5⟩:=o8
   obtain rfl:=sOp ho e1
   have dp:=dPo e5 hdep
   have nd:k 10=false:=by
    cases e:k 10 with
    | false=>rfl
    | true =>
     have y:=hcl.dep' o10 e 8 (by decide)
     rw[hl] at y
     cases y
   refine wVa (v:=.pointer (some ⟨w.heap.size,0,none⟩)) (w':=w.alloc (.cells #[.slice none 0 0,.slice none 0 0,.slice none 0 0,.slice none 0 0,.slice none 0 0,.slice none 0 0,.slice none 0 0,.slice none 0 0,.slice none 0 0] 65)) ho e4 (by simp[execOp,e3,run_alloc65]) ?_
   rw[e2]
   refine go rfl (by decide) (bNw (Below.refl _ _) _) ⟨w.heap.size,rfl,hw.size,?_⟩
   dsimp only
   rw[oth 10 (by decide),nd]
   exact Blk.new 65 w _
  ·obtain⟨o',e1,e2,e3,e4,e5⟩:=o9
   obtain rfl:=sOp ho e1
   have dp:=dPo e5 hdep
   have V1:a.tmps.getD 13 undef=.agg #[.int .i64 M.d,.int .i64 M.h,.int .i64 M.l,.int .i64 M.v,.int .i64 M.u,.int .i64 M.x,.int .i64 M.t,.int .i64 M.n]:=hI.val 1 13 (by decide) rfl (dp 1 (by decide))
   obtain⟨b,V7,bge,q⟩:∃ b,a.tmps.getD 9 undef=.pointer (some ⟨b,0,none⟩)∧w0.heap.size≤b∧Blk 23 w b (cond (k 9) #[.int .i64 M.d,.int .i64 M.h,.int .i64 M.l,.int .i64 M.v,.int .i64 M.u,.int .i64 M.x,.int .i64 M.t,.int .i64 M.n] #[.int .i64 0,.int .i64 0,.int .i64 0,.int .i64 0,.int .i64 0,.int .i64 0,.int .i64 0,.int .i64 0]):=hI.val 7 9 (by decide) rfl (dp 7 (by decide))
   rw[hl] at q
   obtain⟨w',r',q',on⟩:=run_store23 q M.d M.h M.l M.v M.u M.x M.t M.n
   refine wSk (w':=w') ho e4 (by simp[execOp,e3,ev,V7,V1,r']) ?_
   rw[e2]
   refine Inv.none_' hI rfl (Only.below hw bge hw.size on) (fun j dd hj hD hkj hne hf=>?_)
   rcases (show j=0∨j=1∨j=2∨j=3∨j=4∨j=5∨j=6∨j=7∨j=8∨j=9∨j=10 by omega) with rfl|rfl|rfl|rfl|rfl|rfl|rfl|rfl|rfl|rfl|rfl
   ·exact hf
   ·exact hf
   ·exact hf
   ·exact hf
   ·exact hf
   ·exact hf
   ·exact hf
   ·obtain⟨b2,p1,p0,p2⟩:=hf
    have eb:b2=b:=by
     obtain rfl:=Option.some.inj hD
     have:=V7.symm.trans p1
     simp at this
     exact this.symm
    subst eb
    refine⟨b2,p1,p0,?_⟩
    dsimp only
    rw[sam]
    exact q'
   ·obtain⟨b2,p1,p0,p2⟩:=hf
    refine⟨b2,p1,p0,?_⟩
    dsimp only
    rw[oth 10 (by decide)]
    exact p2.only on (p2.apart q (by decide))
   ·trivial
   ·trivial
  ·obtain⟨o',e1,e2,e3,e4,e5⟩:=o10
   obtain rfl:=sOp ho e1
   have dp:=dPo e5 hdep
   have V6:a.tmps.getD 18 undef=.agg #[.slice (Y i 0).a (Y i 0).n (Y i 0).c,.slice (Y i 1).a (Y i 1).n (Y i 1).c,.slice (Y i 2).a (Y i 2).n (Y i 2).c,.slice (Y i 3).a (Y i 3).n (Y i 3).c,.slice (Y i 4).a (Y i 4).n (Y i 4).c,.slice (Y i 5).a (Y i 5).n (Y i 5).c,.slice (Y i 6).a (Y i 6).n (Y i 6).c,.slice (Y i 7).a (Y i 7).n (Y i 7).c,.slice (Y i 8).a (Y i 8).n (Y i 8).c]:=hI.val 6 18 (by decide) rfl (dp 6 (by decide))
   obtain⟨b,V8,bge,q⟩:∃ b,a.tmps.getD 10 undef=.pointer (some ⟨b,0,none⟩)∧w0.heap.size≤b∧Blk 65 w b (cond (k 10) #[.slice (Y i 0).a (Y i 0).n (Y i 0).c,.slice (Y i 1).a (Y i 1).n (Y i 1).c,.slice (Y i 2).a (Y i 2).n (Y i 2).c,.slice (Y i 3).a (Y i 3).n (Y i 3).c,.slice (Y i 4).a (Y i 4).n (Y i 4).c,.slice (Y i 5).a (Y i 5).n (Y i 5).c,.slice (Y i 6).a (Y i 6).n (Y i 6).c,.slice (Y i 7).a (Y i 7).n (Y i 7).c,.slice (Y i 8).a (Y i 8).n (Y i 8).c] #[.slice none 0 0,.slice none 0 0,.slice none 0 0,.slice none 0 0,.slice none 0 0,.slice none 0 0,.slice none 0 0,.slice none 0 0,.slice none 0 0]):=hI.val 8 10 (by decide) rfl (dp 8 (by decide))
   rw[hl] at q
   obtain⟨w',r',q',on⟩:=run_store65 q (Y i)
   refine wSk (w':=w') ho e4 (by simp[execOp,e3,ev,V8,V6,r']) ?_
   rw[e2]
   refine Inv.none_' hI rfl (Only.below hw bge hw.size on) (fun j dd hj hD hkj hne hf=>?_)
   rcases (show j=0∨j=1∨j=2∨j=3∨j=4∨j=5∨j=6∨j=7∨j=8∨j=9∨j=10 by omega) with rfl|rfl|rfl|rfl|rfl|rfl|rfl|rfl|rfl|rfl|rfl
   ·exact hf
   ·exact hf
   ·exact hf
   ·exact hf
   ·exact hf
   ·exact hf
   ·exact hf
   ·obtain⟨b2,p1,p0,p2⟩:=hf
    refine⟨b2,p1,p0,?_⟩
    dsimp only
    rw[oth 9 (by decide)]
    exact p2.only on (p2.apart q (by decide))
   ·obtain⟨b2,p1,p0,p2⟩:=hf
    have eb:b2=b:=by
     obtain rfl:=Option.some.inj hD
     have:=V8.symm.trans p1
     simp at this
     exact this.symm
    subst eb
    refine⟨b2,p1,p0,?_⟩
    dsimp only
    rw[sam]
    exact q'
   ·trivial
   ·trivial
 ·intro k a w hall hI
  have all:∀ j,j<11→k j=true:=fun j hj=>hall j (by rw[hsz];exact hj)
  obtain⟨cb,v1,-,q1⟩:∃ b,a.tmps.getD 9 undef=.pointer (some ⟨b,0,none⟩)∧w0.heap.size≤b∧Blk 23 w b (cond (k 9) #[.int .i64 M.d,.int .i64 M.h,.int .i64 M.l,.int .i64 M.v,.int .i64 M.u,.int .i64 M.x,.int .i64 M.t,.int .i64 M.n] #[.int .i64 0,.int .i64 0,.int .i64 0,.int .i64 0,.int .i64 0,.int .i64 0,.int .i64 0,.int .i64 0]):=hI.val 7 9 (by decide) rfl (all 7 (by decide))
  obtain⟨lb,v2,-,q2⟩:∃ b,a.tmps.getD 10 undef=.pointer (some ⟨b,0,none⟩)∧w0.heap.size≤b∧Blk 65 w b (cond (k 10) #[.slice (Y i 0).a (Y i 0).n (Y i 0).c,.slice (Y i 1).a (Y i 1).n (Y i 1).c,.slice (Y i 2).a (Y i 2).n (Y i 2).c,.slice (Y i 3).a (Y i 3).n (Y i 3).c,.slice (Y i 4).a (Y i 4).n (Y i 4).c,.slice (Y i 5).a (Y i 5).n (Y i 5).c,.slice (Y i 6).a (Y i 6).n (Y i 6).c,.slice (Y i 7).a (Y i 7).n (Y i 7).c,.slice (Y i 8).a (Y i 8).n (Y i 8).c] #[.slice none 0 0,.slice none 0 0,.slice none 0 0,.slice none 0 0,.slice none 0 0,.slice none 0 0,.slice none 0 0,.slice none 0 0,.slice none 0 0]):=hI.val 8 10 (by decide) rfl (all 8 (by decide))
  rw[all 9 (by decide)] at q1
  rw[all 10 (by decide)] at q2
  exact fin a w cb lb hI.size hI.defers hI.kept v1 v2 hI.world q1 q2
def lzD (i:Nat):Option Nat:=match i with|0=>some 39|1=>some 40|2=>some 41|3=>some 42|4=>some 43|5=>some 44|6=>some 45|7=>some 16|8=>some 17|_=>none
theorem lzD_inj:∀ i,i<11→∀ j,j<11→lzD i=lzD j→lzD i≠none→i=j:=by decide
theorem lzD_lt:∀ i,i<11→∀ d,lzD i=some d→d<190:=by
 intro i hi d h
 have:∀ i,i<11→(lzD i).all (fun d=>decide (d<190))=true:=by decide
 have:=this i hi
 rw[h] at this
 simpa using this
def lzF (g:Nat)(M:Md)(E L N O:SL)(Y:Nat→Nat→SL)(B i:Nat)(x:Addr)(k:Nat→Bool)(j:Nat)(q:Value)(w:World):Prop:=match j with
 | 0=>q=.pointer (some ⟨B,0,none⟩)
 | 1=>q=.agg #[.int .i64 M.d,.int .i64 M.h,.int .i64 M.l,.int .i64 M.v,.int .i64 M.u,.int .i64 M.x,.int .i64 M.t,.int .i64 M.n]
 | 2=>q=.pointer (some ⟨B,9,none⟩)
 | 3=>q=.slice (some x) M.m.ln L.c
 | 4=>q=.int .i64 i
 | 5=>q=.pointer (some (x.add (i*9)))
 | 6=>q=.agg #[.slice (Y i 0).a (Y i 0).n (Y i 0).c,.slice (Y i 1).a (Y i 1).n (Y i 1).c,.slice (Y i 2).a (Y i 2).n (Y i 2).c,.slice (Y i 3).a (Y i 3).n (Y i 3).c,.slice (Y i 4).a (Y i 4).n (Y i 4).c,.slice (Y i 5).a (Y i 5).n (Y i 5).c,.slice (Y i 6).a (Y i 6).n (Y i 6).c,.slice (Y i 7).a (Y i 7).n (Y i 7).c,.slice (Y i 8).a (Y i 8).n (Y i 8).c]
 | 7=>∃ b,q=.pointer (some ⟨b,0,none⟩)∧g≤b∧Blk 23 w b (cond (k 9) #[.int .i64 M.d,.int .i64 M.h,.int .i64 M.l,.int .i64 M.v,.int .i64 M.u,.int .i64 M.x,.int .i64 M.t,.int .i64 M.n] #[.int .i64 0,.int .i64 0,.int .i64 0,.int .i64 0,.int .i64 0,.int .i64 0,.int .i64 0,.int .i64 0])
 | 8=>∃ b,q=.pointer (some ⟨b,0,none⟩)∧g≤b∧Blk 65 w b (cond (k 10) #[.slice (Y i 0).a (Y i 0).n (Y i 0).c,.slice (Y i 1).a (Y i 1).n (Y i 1).c,.slice (Y i 2).a (Y i 2).n (Y i 2).c,.slice (Y i 3).a (Y i 3).n (Y i 3).c,.slice (Y i 4).a (Y i 4).n (Y i 4).c,.slice (Y i 5).a (Y i 5).n (Y i 5).c,.slice (Y i 6).a (Y i 6).n (Y i 6).c,.slice (Y i 7).a (Y i 7).n (Y i 7).c,.slice (Y i 8).a (Y i 8).n (Y i 8).c] #[.slice none 0 0,.slice none 0 0,.slice none 0 0,.slice none 0 0,.slice none 0 0,.slice none 0 0,.slice none 0 0,.slice none 0 0,.slice none 0 0])
 | _=>True
theorem lz_region {id:Nat}{ops:Array Oper}{Q:Exit→Act→World→Prop}{a0:Act}{w0:World}(M:Md)(E L N O:SL)(Y:Nat→Nat→SL)(B i:Nat)(x:Addr)(U D:Nat→Nat→SL)(hM:ModAt w0 E L N O Y U D M.m)(hx:L.a=some x)(hi':i<M.m.ln)(hB:Blk 27 w0 B #[.int .i64 M.d,.int .i64 M.h,.int .i64 M.l,.int .i64 M.v,.int .i64 M.u,.int .i64 M.x,.int .i64 M.t,.int .i64 M.n,.slice E.a E.n E.c,.slice (some x) M.m.ln L.c,.slice N.a N.n N.c,.slice O.a O.n O.c])
  (hlow:lowB ops=true) (hsz:ops.size=11)
  (o0:OpIn ops 0 (some 39) (.fieldAddr 27 (.tmp 7) 0) none []) (o1:OpIn ops 1 (some 40) (.load 23 (.tmp 39)) none [0]) (o2:OpIn ops 2 (some 41) (.fieldAddr 27 (.tmp 7) 2) none []) (o3:OpIn ops 3 (some 42) (.load 25 (.tmp 41)) none [2]) (o4:OpIn ops 4 (some 43) (.move (.tmp 1)) none []) (o5:OpIn ops 5 (some 44) (.indexAddr 25 (.tmp 42) (.tmp 43)) none [3,4]) (o6:OpIn ops 6 (some 45) (.load 65 (.tmp 44)) none [5]) (o7:OpIn ops 7 (some 16) (.alloc 23) none []) (o8:OpIn ops 8 (some 17) (.alloc 65) none []) (o9:OpIn ops 9 none (.store 23 (.tmp 16) (.tmp 40)) none [1,7]) (o10:OpIn ops 10 none (.store 65 (.tmp 17) (.tmp 45)) none [6,8])
  (ub:a0.tmps.getD 7 undef=.pointer (some ⟨B,0,none⟩)) (ui:a0.tmps.getD 1 undef=.int .i64 i)
  (hs:190≤a0.tmps.size)
  (fin:∀ a w cb lb,a.tmps.size=a0.tmps.size→a.defers=a0.defers→(∀ s,(∀ i,i<11→lzD i≠some s)→a.tmps.getD s undef=a0.tmps.getD s undef)→a.tmps.getD 16 undef=.pointer (some ⟨cb,0,none⟩)→a.tmps.getD 17 undef=.pointer (some ⟨lb,0,none⟩)→Below w0.heap.size w0 w→Blk 23 w cb #[.int .i64 M.d,.int .i64 M.h,.int .i64 M.l,.int .i64 M.v,.int .i64 M.u,.int .i64 M.x,.int .i64 M.t,.int .i64 M.n]→Blk 65 w lb #[.slice (Y i 0).a (Y i 0).n (Y i 0).c,.slice (Y i 1).a (Y i 1).n (Y i 1).c,.slice (Y i 2).a (Y i 2).n (Y i 2).c,.slice (Y i 3).a (Y i 3).n (Y i 3).c,.slice (Y i 4).a (Y i 4).n (Y i 4).c,.slice (Y i 5).a (Y i 5).n (Y i 5).c,.slice (Y i 6).a (Y i 6).n (Y i 6).c,.slice (Y i 7).a (Y i 7).n (Y i 7).c,.slice (Y i 8).a (Y i 8).n (Y i 8).c]→Q .normal a w):(Code.region id ops true).wp Tryz.prog Q a0 w0:=by
 refine wRi (by kernel_rfl) hlow (Inv 11 lzD a0 (fun _ _ w=>Below w0.heap.size w0 w) (lzF w0.heap.size M E L N O Y B i x)) (Inv.start (Below.refl _ _).drew) ?_ ?_
 ·intro k i' o a w ho hl hcl hdep hI
  have hi:i'<11:=by rw[←hsz];exact (Array.getElem?_eq_some_iff.1 ho).1
  have ev:∀ (s:Nat),a.eval (.tmp s)=a.tmps.getD s undef:=fun _=>rfl
  have inj:∀ d,lzD i'=some d→∀ j d',j<11→lzD j=some d'→j≠i'→d'≠d:=fun d hd j d' hj hd' hne e=>hne (lzD_inj j hj i' hi (by rw[hd',hd,e]) (by rw[hd'];simp))
  have kp:∀ s,(∀ i,i<11→lzD i≠some s)→a.tmps.getD s undef=a0.tmps.getD s undef:=hI.kept
  have hw:Below w0.heap.size w0 w:=hI.world
  have oth:∀ j,j≠i'→(k j || j==i')=k j:=fun j hj=>by rw[show (j==i')=false by simp[hj],Bool.or_false]
  have sam:(k i' || i'==i')=true:=by simp
  have U1:a.tmps.getD 7 undef=.pointer (some ⟨B,0,none⟩):=(kp 7 (by decide)).trans ub
  have U2:a.tmps.getD 1 undef=.int .i64 i:=(kp 1 (by decide)).trans ui
  have qB:=hB.kept hw
  have hM':=hM.below hw
  have go:∀ {d:Nat}{v:Value}{w':World},lzD i'=some d→i'≠9∧i'≠10→Below w.heap.size w w'→lzF w0.heap.size M E L N O Y B i x (fun j=>k j || j==i') i' v w'→Inv 11 lzD a0 (fun _ _ w=>Below w0.heap.size w0 w) (lzF w0.heap.size M E L N O Y B i x) (fun j=>k j || j==i') (a.put (some d) v) w':=by
   intro d v w' hD hn hb hF
   refine hI.put hi hD (Nat.lt_of_lt_of_le (lzD_lt i' hi d hD) hs) (inj d hD) (bTn hw hb) hF (fun j u hj _ _ hf=>?_)
   unfold lzF at hf ⊢
   dsimp only
   rw[oth 9 (fun e=>hn.1 e.symm),oth 10 (fun e=>hn.2 e.symm)]
   rcases (show j=0∨j=1∨j=2∨j=3∨j=4∨j=5∨j=6∨j=7∨j=8∨j=9∨j=10 by omega) with rfl|rfl|rfl|rfl|rfl|rfl|rfl|rfl|rfl|rfl|rfl<;>first
    | exact hf
    | (obtain⟨b,q1,q0,q2⟩:=hf;exact⟨b,q1,q0,q2.kept hb⟩)
  rcases (show i'=0∨i'=1∨i'=2∨i'=3∨i'=4∨i'=5∨i'=6∨i'=7∨i'=8∨i'=9∨i'=10 by omega) with rfl|rfl|rfl|rfl|rfl|rfl|rfl|rfl|rfl|rfl|rfl
  ·obtain⟨o',e1,e2,e3,e4,e5⟩:=o0
   obtain rfl:=sOp ho e1
   have dp:=dPo e5 hdep
   exact wVa (v:=.pointer (some ⟨B,0,none⟩)) (w':=w) ho e4 (by simp[execOp,e3,ev,U1,run_field27 B 0 0 (by omega)]) (by rw[e2];exact go rfl (by decide) (Below.refl _ _) rfl)
  ·obtain⟨o',e1,e2,e3,e4,e5⟩:=o1
   obtain rfl:=sOp ho e1
   have dp:=dPo e5 hdep
   have V0:a.tmps.getD 39 undef=.pointer (some ⟨B,0,none⟩):=hI.val 0 39 (by decide) rfl (dp 0 (by decide))
   exact wVa (v:=.agg #[.int .i64 M.d,.int .i64 M.h,.int .i64 M.l,.int .i64 M.v,.int .i64 M.u,.int .i64 M.x,.int .i64 M.t,.int .i64 M.n]) (w':=w) ho e4 (by simp[execOp,e3,ev,V0,run_cfg12 qB]) (by rw[e2];exact go rfl (by decide) (Below.refl _ _) rfl)
  ·obtain⟨o',e1,e2,e3,e4,e5⟩:=o2
   obtain rfl:=sOp ho e1
   have dp:=dPo e5 hdep
   exact wVa (v:=.pointer (some ⟨B,9,none⟩)) (w':=w) ho e4 (by simp[execOp,e3,ev,U1,run_field27 B 2 9 (by omega)]) (by rw[e2];exact go rfl (by decide) (Below.refl _ _) rfl)
  ·obtain⟨o',e1,e2,e3,e4,e5⟩:=o3
   obtain rfl:=sOp ho e1
   have dp:=dPo e5 hdep
   have V2:a.tmps.getD 41 undef=.pointer (some ⟨B,9,none⟩):=hI.val 2 41 (by decide) rfl (dp 2 (by decide))
   have c9:w.cell? ⟨B,9,none⟩=some (.slice (some x) M.m.ln L.c):=qB.cell 9 rfl
   exact wVa (v:=.slice (some x) M.m.ln L.c) (w':=w) ho e4 (by simp[execOp,e3,ev,V2,run_load25 c9]) (by rw[e2];exact go rfl (by decide) (Below.refl _ _) rfl)
  ·obtain⟨o',e1,e2,e3,e4,e5⟩:=o4
   obtain rfl:=sOp ho e1
   have dp:=dPo e5 hdep
   exact wVa (v:=.int .i64 i) (w':=w) ho e4 (by simp[execOp,e3,ev,U2]) (by rw[e2];exact go rfl (by decide) (Below.refl _ _) rfl)
  ·obtain⟨o',e1,e2,e3,e4,e5⟩:=o5
   obtain rfl:=sOp ho e1
   have dp:=dPo e5 hdep
   have V3:a.tmps.getD 42 undef=.slice (some x) M.m.ln L.c:=hI.val 3 42 (by decide) rfl (dp 3 (by decide))
   have V4:a.tmps.getD 43 undef=.int .i64 i:=hI.val 4 43 (by decide) rfl (dp 4 (by decide))
   exact wVa (v:=.pointer (some (x.add (i*9)))) (w':=w) ho e4 (by simp[execOp,e3,ev,V3,V4,run_index25 hi' w]) (by rw[e2];exact go rfl (by decide) (Below.refl _ _) rfl)
  ·obtain⟨o',e1,e2,e3,e4,e5⟩:=o6
   obtain rfl:=sOp ho e1
   have dp:=dPo e5 hdep
   have V5:a.tmps.getD 44 undef=.pointer (some (x.add (i*9))):=hI.val 5 44 (by decide) rfl (dp 5 (by decide))
   exact wVa (v:=.agg #[.slice (Y i 0).a (Y i 0).n (Y i 0).c,.slice (Y i 1).a (Y i 1).n (Y i 1).c,.slice (Y i 2).a (Y i 2).n (Y i 2).c,.slice (Y i 3).a (Y i 3).n (Y i 3).c,.slice (Y i 4).a (Y i 4).n (Y i 4).c,.slice (Y i 5).a (Y i 5).n (Y i 5).c,.slice (Y i 6).a (Y i 6).n (Y i 6).c,.slice (Y i 7).a (Y i 7).n (Y i 7).c,.slice (Y i 8).a (Y i 8).n (Y i 8).c]) (w':=w) ho e4 (by simp[execOp,e3,ev,V5,run_load65 (y:=Y i) (fun j hj=>hM'.cell x hx i hi' j hj)]) (by rw[e2];exact go rfl (by decide) (Below.refl _ _) rfl)
  ·obtain⟨o',e1,e2,e3,e4,e5⟩:=o7
   obtain rfl:=sOp ho e1
   have dp:=dPo e5 hdep
   have nd:k 9=false:=by
    cases e:k 9 with
    | false=>rfl
    | true =>
     have y:=hcl.dep' o9 e 7 (by decide)
     rw[hl] at y
     cases y
   refine wVa (v:=.pointer (some ⟨w.heap.size,0,none⟩)) (w':=w.alloc (.cells #[.int .i64 0,.int .i64 0,.int .i64 0,.int .i64 0,.int .i64 0,.int .i64 0,.int .i64 0,.int .i64 0] 23)) ho e4 (by simp[execOp,e3,run_alloc23]) ?_
   rw[e2]
   refine go rfl (by decide) (bNw (Below.refl _ _) _) ⟨w.heap.size,rfl,hw.size,?_⟩
   dsimp only
   rw[oth 9 (by decide),nd]
   exact Blk.new 23 w _
  ·obtain⟨o',e1,e2,e3,e4,e5⟩:=o8
   obtain rfl:=sOp ho e1
   have dp:=dPo e5 hdep
   have nd:k 10=false:=by
    cases e:k 10 with
    | false=>rfl
    | true =>
     have y:=hcl.dep' o10 e 8 (by decide)
     rw[hl] at y
     cases y
   refine wVa (v:=.pointer (some ⟨w.heap.size,0,none⟩)) (w':=w.alloc (.cells #[.slice none 0 0,.slice none 0 0,.slice none 0 0,.slice none 0 0,.slice none 0 0,.slice none 0 0,.slice none 0 0,.slice none 0 0,.slice none 0 0] 65)) ho e4 (by simp[execOp,e3,run_alloc65]) ?_
   rw[e2]
   refine go rfl (by decide) (bNw (Below.refl _ _) _) ⟨w.heap.size,rfl,hw.size,?_⟩
   dsimp only
   rw[oth 10 (by decide),nd]
   exact Blk.new 65 w _
  ·obtain⟨o',e1,e2,e3,e4,e5⟩:=o9
   obtain rfl:=sOp ho e1
   have dp:=dPo e5 hdep
   have V1:a.tmps.getD 40 undef=.agg #[.int .i64 M.d,.int .i64 M.h,.int .i64 M.l,.int .i64 M.v,.int .i64 M.u,.int .i64 M.x,.int .i64 M.t,.int .i64 M.n]:=hI.val 1 40 (by decide) rfl (dp 1 (by decide))
   obtain⟨b,V7,bge,q⟩:∃ b,a.tmps.getD 16 undef=.pointer (some ⟨b,0,none⟩)∧w0.heap.size≤b∧Blk 23 w b (cond (k 9) #[.int .i64 M.d,.int .i64 M.h,.int .i64 M.l,.int .i64 M.v,.int .i64 M.u,.int .i64 M.x,.int .i64 M.t,.int .i64 M.n] #[.int .i64 0,.int .i64 0,.int .i64 0,.int .i64 0,.int .i64 0,.int .i64 0,.int .i64 0,.int .i64 0]):=hI.val 7 16 (by decide) rfl (dp 7 (by decide))
   rw[hl] at q
   obtain⟨w',r',q',on⟩:=run_store23 q M.d M.h M.l M.v M.u M.x M.t M.n
   refine wSk (w':=w') ho e4 (by simp[execOp,e3,ev,V7,V1,r']) ?_
   rw[e2]
   refine Inv.none_' hI rfl (Only.below hw bge hw.size on) (fun j dd hj hD hkj hne hf=>?_)
   rcases (show j=0∨j=1∨j=2∨j=3∨j=4∨j=5∨j=6∨j=7∨j=8∨j=9∨j=10 by omega) with rfl|rfl|rfl|rfl|rfl|rfl|rfl|rfl|rfl|rfl|rfl
   ·exact hf
   ·exact hf
   ·exact hf
   ·exact hf
   ·exact hf
   ·exact hf
   ·exact hf
   ·obtain⟨b2,p1,p0,p2⟩:=hf
    have eb:b2=b:=by
     obtain rfl:=Option.some.inj hD
     have:=V7.symm.trans p1
     simp at this
     exact this.symm
    subst eb
    refine⟨b2,p1,p0,?_⟩
    dsimp only
    rw[sam]
    exact q'
   ·obtain⟨b2,p1,p0,p2⟩:=hf
    refine⟨b2,p1,p0,?_⟩
    dsimp only
    rw[oth 10 (by decide)]
    exact p2.only on (p2.apart q (by decide))
   ·trivial
   ·trivial
  ·obtain⟨o',e1,e2,e3,e4,e5⟩:=o10
   obtain rfl:=sOp ho e1
   have dp:=dPo e5 hdep
   have V6:a.tmps.getD 45 undef=.agg #[.slice (Y i 0).a (Y i 0).n (Y i 0).c,.slice (Y i 1).a (Y i 1).n (Y i 1).c,.slice (Y i 2).a (Y i 2).n (Y i 2).c,.slice (Y i 3).a (Y i 3).n (Y i 3).c,.slice (Y i 4).a (Y i 4).n (Y i 4).c,.slice (Y i 5).a (Y i 5).n (Y i 5).c,.slice (Y i 6).a (Y i 6).n (Y i 6).c,.slice (Y i 7).a (Y i 7).n (Y i 7).c,.slice (Y i 8).a (Y i 8).n (Y i 8).c]:=hI.val 6 45 (by decide) rfl (dp 6 (by decide))
   obtain⟨b,V8,bge,q⟩:∃ b,a.tmps.getD 17 undef=.pointer (some ⟨b,0,none⟩)∧w0.heap.size≤b∧Blk 65 w b (cond (k 10) #[.slice (Y i 0).a (Y i 0).n (Y i 0).c,.slice (Y i 1).a (Y i 1).n (Y i 1).c,.slice (Y i 2).a (Y i 2).n (Y i 2).c,.slice (Y i 3).a (Y i 3).n (Y i 3).c,.slice (Y i 4).a (Y i 4).n (Y i 4).c,.slice (Y i 5).a (Y i 5).n (Y i 5).c,.slice (Y i 6).a (Y i 6).n (Y i 6).c,.slice (Y i 7).a (Y i 7).n (Y i 7).c,.slice (Y i 8).a (Y i 8).n (Y i 8).c] #[.slice none 0 0,.slice none 0 0,.slice none 0 0,.slice none 0 0,.slice none 0 0,.slice none 0 0,.slice none 0 0,.slice none 0 0,.slice none 0 0]):=hI.val 8 17 (by decide) rfl (dp 8 (by decide))
   rw[hl] at q
   obtain⟨w',r',q',on⟩:=run_store65 q (Y i)
   refine wSk (w':=w') ho e4 (by simp[execOp,e3,ev,V8,V6,r']) ?_
   rw[e2]
   refine Inv.none_' hI rfl (Only.below hw bge hw.size on) (fun j dd hj hD hkj hne hf=>?_)
   rcases (show j=0∨j=1∨j=2∨j=3∨j=4∨j=5∨j=6∨j=7∨j=8∨j=9∨j=10 by omega) with rfl|rfl|rfl|rfl|rfl|rfl|rfl|rfl|rfl|rfl|rfl
   ·exact hf
   ·exact hf
   ·exact hf
   ·exact hf
   ·exact hf
   ·exact hf
   ·exact hf
   ·obtain⟨b2,p1,p0,p2⟩:=hf
    refine⟨b2,p1,p0,?_⟩
    dsimp only
    rw[oth 9 (by decide)]
    exact p2.only on (p2.apart q (by decide))
   ·obtain⟨b2,p1,p0,p2⟩:=hf
    have eb:b2=b:=by
     obtain rfl:=Option.some.inj hD
     have:=V8.symm.trans p1
     simp at this
     exact this.symm
    subst eb
    refine⟨b2,p1,p0,?_⟩
    dsimp only
    rw[sam]
    exact q'
   ·trivial
   ·trivial
 ·intro k a w hall hI
  have all:∀ j,j<11→k j=true:=fun j hj=>hall j (by rw[hsz];exact hj)
  obtain⟨cb,v1,-,q1⟩:∃ b,a.tmps.getD 16 undef=.pointer (some ⟨b,0,none⟩)∧w0.heap.size≤b∧Blk 23 w b (cond (k 9) #[.int .i64 M.d,.int .i64 M.h,.int .i64 M.l,.int .i64 M.v,.int .i64 M.u,.int .i64 M.x,.int .i64 M.t,.int .i64 M.n] #[.int .i64 0,.int .i64 0,.int .i64 0,.int .i64 0,.int .i64 0,.int .i64 0,.int .i64 0,.int .i64 0]):=hI.val 7 16 (by decide) rfl (all 7 (by decide))
  obtain⟨lb,v2,-,q2⟩:∃ b,a.tmps.getD 17 undef=.pointer (some ⟨b,0,none⟩)∧w0.heap.size≤b∧Blk 65 w b (cond (k 10) #[.slice (Y i 0).a (Y i 0).n (Y i 0).c,.slice (Y i 1).a (Y i 1).n (Y i 1).c,.slice (Y i 2).a (Y i 2).n (Y i 2).c,.slice (Y i 3).a (Y i 3).n (Y i 3).c,.slice (Y i 4).a (Y i 4).n (Y i 4).c,.slice (Y i 5).a (Y i 5).n (Y i 5).c,.slice (Y i 6).a (Y i 6).n (Y i 6).c,.slice (Y i 7).a (Y i 7).n (Y i 7).c,.slice (Y i 8).a (Y i 8).n (Y i 8).c] #[.slice none 0 0,.slice none 0 0,.slice none 0 0,.slice none 0 0,.slice none 0 0,.slice none 0 0,.slice none 0 0,.slice none 0 0,.slice none 0 0]):=hI.val 8 17 (by decide) rfl (all 8 (by decide))
  rw[all 9 (by decide)] at q1
  rw[all 10 (by decide)] at q2
  exact fin a w cb lb hI.size hI.defers hI.kept v1 v2 hI.world q1 q2
def ms4D (i:Nat):Option Nat:=match i with|0=>some 39|1=>some 40|2=>some 41|3=>some 42|4=>some 43|5=>some 44|6=>some 45|7=>some 38|8=>some 46|9=>some 47|10=>some 48|11=>some 13|12=>some 14|13=>some 15|_=>none
theorem ms4D_inj:∀ i,i<14→∀ j,j<14→ms4D i=ms4D j→ms4D i≠none→i=j:=by decide
theorem ms4D_lt:∀ i,i<14→∀ d,ms4D i=some d→d<91:=by
 intro i hi d h
 have:∀ i,i<14→(ms4D i).all (fun d=>decide (d<91))=true:=by decide
 have:=this i hi
 rw[h] at this
 simpa using this
def ms4F (M:Md)(E L N O La:SL)(mb ab n pc:Nat)(pa:Option Addr)(p tok ee:Int)(RG:World→Option Addr→Nat→Prop)(RA RB:World→Option Addr→Nat→Nat→Prop)(i:Nat)(q:Value)(w:World):Prop:=match i with
 | 0=>q=.agg #[.int .i64 M.d,.int .i64 M.h,.int .i64 M.l,.int .i64 M.v,.int .i64 M.u,.int .i64 M.x,.int .i64 M.t,.int .i64 M.n,.slice E.a E.n E.c,.slice L.a L.n L.c,.slice N.a N.n N.c,.slice O.a O.n O.c]
 | 1=>q=.agg #[.int .i64 M.r,.int .i64 M.s,.slice La.a La.n La.c]
 | 2=>q=.slice pa n pc
 | 3=>∃ ya yc,q=.slice ya n yc∧RG w ya yc
 | 4=>q=.int .i64 p
 | 5=>q=.int .i64 tok
 | 6=>∃ ya ym yc yb yj yd,q=.tuple #[.slice ya ym yc,.slice yb yj yd,.int .i64 ee]∧RA w ya ym yc∧RB w yb yj yd
 | 7=>∃ ya ym yc yb yj yd,q=.tuple #[.slice ya ym yc,.slice yb yj yd,.int .i64 ee]∧RA w ya ym yc∧RB w yb yj yd
 | 8=>∃ ya ym yc,q=.slice ya ym yc∧RA w ya ym yc
 | 9=>∃ ya ym yc,q=.slice ya ym yc∧RB w ya ym yc
 | 10=>q=.int .i64 ee
 | 11=>∃ ya ym yc,q=.slice ya ym yc∧RA w ya ym yc
 | 12=>∃ ya ym yc,q=.slice ya ym yc∧RB w ya ym yc
 | 13=>q=.int .i64 ee
 | _=>True
theorem ms4F_below {M:Md}{E L N O La:SL}{mb ab n pc:Nat}{pa:Option Addr}{p tok ee:Int}{RG:World→Option Addr→Nat→Prop}{RA RB:World→Option Addr→Nat→Nat→Prop}{i:Nat}{q:Value}{w w':World}(h:ms4F M E L N O La mb ab n pc pa p tok ee RG RA RB i q w)(hb:Below w.heap.size w w')(hRG:∀ {w w':World}{a:Option Addr}{c:Nat},RG w a c→Below w.heap.size w w'→RG w' a c)(hRA:∀ {w w':World}{a:Option Addr}{m c:Nat},RA w a m c→Below w.heap.size w w'→RA w' a m c)(hRB:∀ {w w':World}{a:Option Addr}{m c:Nat},RB w a m c→Below w.heap.size w w'→RB w' a m c):ms4F M E L N O La mb ab n pc pa p tok ee RG RA RB i q w':=by
 unfold ms4F at h ⊢
 split
 ·exact h
 ·exact h
 ·exact h
 ·obtain⟨ya,yc,h1,h2⟩:=h;exact⟨ya,yc,h1,hRG h2 hb⟩
 ·exact h
 ·exact h
 ·obtain⟨ya,ym,yc,yb,yj,yd,h1,h2,h3⟩:=h;exact⟨ya,ym,yc,yb,yj,yd,h1,hRA h2 hb,hRB h3 hb⟩
 ·obtain⟨ya,ym,yc,yb,yj,yd,h1,h2,h3⟩:=h;exact⟨ya,ym,yc,yb,yj,yd,h1,hRA h2 hb,hRB h3 hb⟩
 ·obtain⟨ya,ym,yc,h1,h2⟩:=h;exact⟨ya,ym,yc,h1,hRA h2 hb⟩
 ·obtain⟨ya,ym,yc,h1,h2⟩:=h;exact⟨ya,ym,yc,h1,hRB h2 hb⟩
 ·exact h
 ·obtain⟨ya,ym,yc,h1,h2⟩:=h;exact⟨ya,ym,yc,h1,hRA h2 hb⟩
 ·obtain⟨ya,ym,yc,h1,h2⟩:=h;exact⟨ya,ym,yc,h1,hRB h2 hb⟩
 ·exact h
 ·trivial
theorem ms4_region {id:Nat}{ops:Array Oper}{Q:Exit→Act→World→Prop}{a0:Act}{w0:World}(M:Md)(E L N O La:SL)(mb ab n pc:Nat)(pa:Option Addr)(p tok ee:Int)(RG:World→Option Addr→Nat→Prop)(RA RB:World→Option Addr→Nat→Nat→Prop)(S:World→Prop)(hRG:∀ {w w':World}{a:Option Addr}{c:Nat},RG w a c→Below w.heap.size w w'→RG w' a c)(hRA:∀ {w w':World}{a:Option Addr}{m c:Nat},RA w a m c→Below w.heap.size w w'→RA w' a m c)(hRB:∀ {w w':World}{a:Option Addr}{m c:Nat},RB w a m c→Below w.heap.size w w'→RB w' a m c)(hlow:lowB ops=true)(hsz:ops.size=14)
  (o0:OpIn ops 0 (some 39) (.load 27 (.tmp 11)) none []) (o1:OpIn ops 1 (some 40) (.load 30 (.tmp 12)) none []) (o2:OpIn ops 2 (some 41) (.move (.tmp 2)) none []) (o3:OpIn ops 3 (some 42) (.call { callee:=.value (.func 12),args:=#[.tmp 41],argTypes:=#[31] }) none [2]) (o4:OpIn ops 4 (some 43) (.move (.tmp 3)) none []) (o5:OpIn ops 5 (some 44) (.move (.tmp 4)) none []) (o6:OpIn ops 6 (some 45) (.call { callee:=.value (.func 11),args:=#[.tmp 39,.tmp 40,.tmp 42,.tmp 43,.tmp 44],argTypes:=#[27,30,31,3,3] }) none [0,1,3,4,5]) (o7:OpIn ops 7 (some 38) (.move (.tmp 45)) none [6]) (o8:OpIn ops 8 (some 46) (.extract (.tmp 38) 0) none [7]) (o9:OpIn ops 9 (some 47) (.extract (.tmp 38) 1) none [7]) (o10:OpIn ops 10 (some 48) (.extract (.tmp 38) 2) none [7]) (o11:OpIn ops 11 (some 13) (.assign (.tmp 46)) none [8]) (o12:OpIn ops 12 (some 14) (.assign (.tmp 47)) none [9]) (o13:OpIn ops 13 (some 15) (.assign (.tmp 48)) none [10])
  (hS:S w0.drew)
  (x0:∀ w,S w→(Instr.loadAt 27 (.pointer (some ⟨mb,0,none⟩))).run Tryz.prog w=.ok (.agg #[.int .i64 M.d,.int .i64 M.h,.int .i64 M.l,.int .i64 M.v,.int .i64 M.u,.int .i64 M.x,.int .i64 M.t,.int .i64 M.n,.slice E.a E.n E.c,.slice L.a L.n L.c,.slice N.a N.n N.c,.slice O.a O.n O.c]) w)
  (x1:∀ w,S w→(Instr.loadAt 30 (.pointer (some ⟨ab,0,none⟩))).run Tryz.prog w=.ok (.agg #[.int .i64 M.r,.int .i64 M.s,.slice La.a La.n La.c]) w)
  (x3:∀ w,S w→Calls Tryz.prog 12 #[.slice pa n pc] w fun e w'=>(∃ ya yc,e=.returned (.slice ya n yc)∧RG w' ya yc)∧Below w.heap.size w w'∧S w')
  (x6:∀ w ya yc,S w→RG w ya yc→Calls Tryz.prog 11 #[.agg #[.int .i64 M.d,.int .i64 M.h,.int .i64 M.l,.int .i64 M.v,.int .i64 M.u,.int .i64 M.x,.int .i64 M.t,.int .i64 M.n,.slice E.a E.n E.c,.slice L.a L.n L.c,.slice N.a N.n N.c,.slice O.a O.n O.c],.agg #[.int .i64 M.r,.int .i64 M.s,.slice La.a La.n La.c],.slice ya n yc,.int .i64 p,.int .i64 tok] w fun e w'=>(∃ ya ym yc yb yj yd,e=.returned (.tuple #[.slice ya ym yc,.slice yb yj yd,.int .i64 ee])∧RA w' ya ym yc∧RB w' yb yj yd)∧Below w.heap.size w w'∧S w')
  (u2:a0.tmps.getD 2 undef=.slice pa n pc)
  (u3:a0.tmps.getD 3 undef=.int .i64 p)
  (u4:a0.tmps.getD 4 undef=.int .i64 tok)
  (u11:a0.tmps.getD 11 undef=.pointer (some ⟨mb,0,none⟩))
  (u12:a0.tmps.getD 12 undef=.pointer (some ⟨ab,0,none⟩))
  (hs:91≤a0.tmps.size)
  (fin:∀ a w,a.tmps.size=a0.tmps.size→a.defers=a0.defers→(∀ s,(∀ i,i<14→ms4D i≠some s)→a.tmps.getD s undef=a0.tmps.getD s undef)→S w→(∀ i d,i<14→ms4D i=some d→ms4F M E L N O La mb ab n pc pa p tok ee RG RA RB i (a.tmps.getD d undef) w)→Q .normal a w):(Code.region id ops true).wp Tryz.prog Q a0 w0:=by
 have r11:∀ args w,(callFunc 11 args).run Tryz.prog w=.ok (.enter 11 args) w:=eNo Tryz.func11 (by kernel_rfl) rfl
 have r12:∀ args w,(callFunc 12 args).run Tryz.prog w=.ok (.enter 12 args) w:=eNo Tryz.func12 (by kernel_rfl) rfl
 refine wRi (by kernel_rfl) hlow (Inv 14 ms4D a0 (fun l a w=>S w∧Kept2 14 ms4D a0 l a) (fun _=>ms4F M E L N O La mb ab n pc pa p tok ee RG RA RB)) (Inv.start ⟨hS,kept2_start _ _ _⟩) ?_ ?_
 ·intro l i o a w ho hl hcl hdep hI
  have hi:i<14:=by rw[←hsz];exact (Array.getElem?_eq_some_iff.1 ho).1
  have ev:∀ (s:Nat),a.eval (.tmp s)=a.tmps.getD s undef:=fun _=>rfl
  have evf:∀ f,a.eval (.func f)=.func (.func f) #[] #[]:=fun _=>rfl
  have evc:∀ c:Value,a.eval (.const c)=c:=fun _=>rfl
  have inj:∀ d,ms4D i=some d→∀ j d',j<14→ms4D j=some d'→j≠i→d'≠d:=fun d hd j d' hj hd' hne e=>hne (ms4D_inj j hj i hi (by rw[hd',hd,e]) (by rw[hd'];simp))
  have kp:∀ s,(∀ i,i<14→ms4D i≠some s)→a.tmps.getD s undef=a0.tmps.getD s undef:=hI.kept
  have hw:S w:=hI.world.1
  have k2:=hI.world.2
  have ex0:=hI.world.2
  have go:∀ {d:Nat}{v:Value}{w':World},ms4D i=some d→Below w.heap.size w w'→S w'→ms4F M E L N O La mb ab n pc pa p tok ee RG RA RB i v w'→Inv 14 ms4D a0 (fun l a w=>S w∧Kept2 14 ms4D a0 l a) (fun _=>ms4F M E L N O La mb ab n pc pa p tok ee RG RA RB) (fun j=>l j || j==i) (a.put (some d) v) w':=by
   intro d v w' hD hb hS' hF
   exact hI.put hi hD (Nat.lt_of_lt_of_le (ms4D_lt i hi d hD) hs) (inj d hD) ⟨hS',k2.put hD (by rw[hI.size];exact Nat.lt_of_lt_of_le (ms4D_lt i hi d hD) hs) hi⟩ hF (fun j u _ _ _ hf=>ms4F_below hf hb hRG hRA hRB)
  rcases (show i=0∨i=1∨i=2∨i=3∨i=4∨i=5∨i=6∨i=7∨i=8∨i=9∨i=10∨i=11∨i=12∨i=13 by omega) with rfl|rfl|rfl|rfl|rfl|rfl|rfl|rfl|rfl|rfl|rfl|rfl|rfl|rfl
  ·obtain⟨o',e1,e2,e3,e4,e5⟩:=o0
   obtain rfl:=sOp ho e1
   have dp:=dPo e5 hdep
   have U11:a.tmps.getD 11 undef=.pointer (some ⟨mb,0,none⟩):=(kp 11 (by decide)).trans u11
   exact wVa (v:=.agg #[.int .i64 M.d,.int .i64 M.h,.int .i64 M.l,.int .i64 M.v,.int .i64 M.u,.int .i64 M.x,.int .i64 M.t,.int .i64 M.n,.slice E.a E.n E.c,.slice L.a L.n L.c,.slice N.a N.n N.c,.slice O.a O.n O.c]) (w':=w) ho e4 (by simp[execOp,e3,ev,evc,U11,x0 w hw]) (by rw[e2];exact go rfl (Below.refl _ _) hw rfl)
  ·obtain⟨o',e1,e2,e3,e4,e5⟩:=o1
   obtain rfl:=sOp ho e1
   have dp:=dPo e5 hdep
   have U12:a.tmps.getD 12 undef=.pointer (some ⟨ab,0,none⟩):=(kp 12 (by decide)).trans u12
   exact wVa (v:=.agg #[.int .i64 M.r,.int .i64 M.s,.slice La.a La.n La.c]) (w':=w) ho e4 (by simp[execOp,e3,ev,evc,U12,x1 w hw]) (by rw[e2];exact go rfl (Below.refl _ _) hw rfl)
  ·obtain⟨o',e1,e2,e3,e4,e5⟩:=o2
   obtain rfl:=sOp ho e1
   have dp:=dPo e5 hdep
   have U2:a.tmps.getD 2 undef=.slice pa n pc:=(kp 2 (by decide)).trans u2
   exact wVa (v:=.slice pa n pc) (w':=w) ho e4 (by simp[execOp,e3,ev,evc,U2]) (by rw[e2];exact go rfl (Below.refl _ _) hw rfl)
  ·obtain⟨o',e1,e2,e3,e4,e5⟩:=o3
   obtain rfl:=sOp ho e1
   have dp:=dPo e5 hdep
   have V2:a.tmps.getD 41 undef=.slice pa n pc:=hI.val 2 41 (by decide) rfl (dp 2 (by decide))
   refine wCa (f:=12) (args:=#[.slice pa n pc]) ho e4 (by simp[execOp,e3,resolve,invoke,Deferred.ofValue,r12,ev,evf,evc,V2]) ((x3 w hw).mono ?_)
   rintro e W' ⟨⟨a6,c6,rfl,f6⟩,hb6,hs6⟩
   refine⟨_,rfl,?_⟩
   rw[e2]
   exact go rfl hb6 hs6 ⟨a6,c6,rfl,f6⟩
  ·obtain⟨o',e1,e2,e3,e4,e5⟩:=o4
   obtain rfl:=sOp ho e1
   have dp:=dPo e5 hdep
   have U3:a.tmps.getD 3 undef=.int .i64 p:=(kp 3 (by decide)).trans u3
   exact wVa (v:=.int .i64 p) (w':=w) ho e4 (by simp[execOp,e3,ev,evc,U3]) (by rw[e2];exact go rfl (Below.refl _ _) hw rfl)
  ·obtain⟨o',e1,e2,e3,e4,e5⟩:=o5
   obtain rfl:=sOp ho e1
   have dp:=dPo e5 hdep
   have U4:a.tmps.getD 4 undef=.int .i64 tok:=(kp 4 (by decide)).trans u4
   exact wVa (v:=.int .i64 tok) (w':=w) ho e4 (by simp[execOp,e3,ev,evc,U4]) (by rw[e2];exact go rfl (Below.refl _ _) hw rfl)
  ·obtain⟨o',e1,e2,e3,e4,e5⟩:=o6
   obtain rfl:=sOp ho e1
   have dp:=dPo e5 hdep
   have V0:a.tmps.getD 39 undef=.agg #[.int .i64 M.d,.int .i64 M.h,.int .i64 M.l,.int .i64 M.v,.int .i64 M.u,.int .i64 M.x,.int .i64 M.t,.int .i64 M.n,.slice E.a E.n E.c,.slice L.a L.n L.c,.slice N.a N.n N.c,.slice O.a O.n O.c]:=hI.val 0 39 (by decide) rfl (dp 0 (by decide))
   have V1:a.tmps.getD 40 undef=.agg #[.int .i64 M.r,.int .i64 M.s,.slice La.a La.n La.c]:=hI.val 1 40 (by decide) rfl (dp 1 (by decide))
   obtain⟨a3,c3,V3,f3⟩:∃ ya yc,a.tmps.getD 42 undef=.slice ya n yc∧RG w ya yc:=hI.val 3 42 (by decide) rfl (dp 3 (by decide))
   have V4:a.tmps.getD 43 undef=.int .i64 p:=hI.val 4 43 (by decide) rfl (dp 4 (by decide))
   have V5:a.tmps.getD 44 undef=.int .i64 tok:=hI.val 5 44 (by decide) rfl (dp 5 (by decide))
   refine wCa (f:=11) (args:=#[.agg #[.int .i64 M.d,.int .i64 M.h,.int .i64 M.l,.int .i64 M.v,.int .i64 M.u,.int .i64 M.x,.int .i64 M.t,.int .i64 M.n,.slice E.a E.n E.c,.slice L.a L.n L.c,.slice N.a N.n N.c,.slice O.a O.n O.c],.agg #[.int .i64 M.r,.int .i64 M.s,.slice La.a La.n La.c],.slice a3 n c3,.int .i64 p,.int .i64 tok]) ho e4 (by simp[execOp,e3,resolve,invoke,Deferred.ofValue,r11,ev,evf,evc,V0,V1,V3,V4,V5]) ((x6 w a3 c3 hw f3).mono ?_)
   rintro e W' ⟨⟨a6,m6,c6,b6,j6,d6,rfl,fa6,fb6⟩,hb6,hs6⟩
   refine⟨_,rfl,?_⟩
   rw[e2]
   exact go rfl hb6 hs6 ⟨a6,m6,c6,b6,j6,d6,rfl,fa6,fb6⟩
  ·obtain⟨o',e1,e2,e3,e4,e5⟩:=o7
   obtain rfl:=sOp ho e1
   have dp:=dPo e5 hdep
   obtain⟨a6,m6,c6,b6,j6,d6,V6,fa6,fb6⟩:∃ ya ym yc yb yj yd,a.tmps.getD 45 undef=.tuple #[.slice ya ym yc,.slice yb yj yd,.int .i64 ee]∧RA w ya ym yc∧RB w yb yj yd:=hI.val 6 45 (by decide) rfl (dp 6 (by decide))
   exact wVa (v:=.tuple #[.slice a6 m6 c6,.slice b6 j6 d6,.int .i64 ee]) (w':=w) ho e4 (by simp[execOp,e3,ev,evc,V6]) (by rw[e2];exact go rfl (Below.refl _ _) hw ⟨a6,m6,c6,b6,j6,d6,rfl,fa6,fb6⟩)
  ·obtain⟨o',e1,e2,e3,e4,e5⟩:=o8
   obtain rfl:=sOp ho e1
   have dp:=dPo e5 hdep
   obtain⟨a7,m7,c7,b7,j7,d7,V7,fa7,fb7⟩:∃ ya ym yc yb yj yd,a.tmps.getD 38 undef=.tuple #[.slice ya ym yc,.slice yb yj yd,.int .i64 ee]∧RA w ya ym yc∧RB w yb yj yd:=hI.val 7 38 (by decide) rfl (dp 7 (by decide))
   exact wVa (v:=.slice a7 m7 c7) (w':=w) ho e4 (by simp[execOp,e3,ev,evc,V7,Instr.extract]) (by rw[e2];exact go rfl (Below.refl _ _) hw ⟨a7,m7,c7,rfl,fa7⟩)
  ·obtain⟨o',e1,e2,e3,e4,e5⟩:=o9
   obtain rfl:=sOp ho e1
   have dp:=dPo e5 hdep
   obtain⟨a7,m7,c7,b7,j7,d7,V7,fa7,fb7⟩:∃ ya ym yc yb yj yd,a.tmps.getD 38 undef=.tuple #[.slice ya ym yc,.slice yb yj yd,.int .i64 ee]∧RA w ya ym yc∧RB w yb yj yd:=hI.val 7 38 (by decide) rfl (dp 7 (by decide))
   exact wVa (v:=.slice b7 j7 d7) (w':=w) ho e4 (by simp[execOp,e3,ev,evc,V7,Instr.extract]) (by rw[e2];exact go rfl (Below.refl _ _) hw ⟨b7,j7,d7,rfl,fb7⟩)
  ·obtain⟨o',e1,e2,e3,e4,e5⟩:=o10
   obtain rfl:=sOp ho e1
   have dp:=dPo e5 hdep
   obtain⟨a7,m7,c7,b7,j7,d7,V7,fa7,fb7⟩:∃ ya ym yc yb yj yd,a.tmps.getD 38 undef=.tuple #[.slice ya ym yc,.slice yb yj yd,.int .i64 ee]∧RA w ya ym yc∧RB w yb yj yd:=hI.val 7 38 (by decide) rfl (dp 7 (by decide))
   exact wVa (v:=.int .i64 ee) (w':=w) ho e4 (by simp[execOp,e3,ev,evc,V7,Instr.extract]) (by rw[e2];exact go rfl (Below.refl _ _) hw rfl)
  ·obtain⟨o',e1,e2,e3,e4,e5⟩:=o11
   obtain rfl:=sOp ho e1
   have dp:=dPo e5 hdep
   obtain⟨a8,m8,c8,V8,f8⟩:∃ ya ym yc,a.tmps.getD 46 undef=.slice ya ym yc∧RA w ya ym yc:=hI.val 8 46 (by decide) rfl (dp 8 (by decide))
   exact wVa (v:=.slice a8 m8 c8) (w':=w) ho e4 (by simp[execOp,e3,ev,evc,V8]) (by rw[e2];exact go rfl (Below.refl _ _) hw ⟨a8,m8,c8,rfl,f8⟩)
  ·obtain⟨o',e1,e2,e3,e4,e5⟩:=o12
   obtain rfl:=sOp ho e1
   have dp:=dPo e5 hdep
   obtain⟨a9,m9,c9,V9,f9⟩:∃ ya ym yc,a.tmps.getD 47 undef=.slice ya ym yc∧RB w ya ym yc:=hI.val 9 47 (by decide) rfl (dp 9 (by decide))
   exact wVa (v:=.slice a9 m9 c9) (w':=w) ho e4 (by simp[execOp,e3,ev,evc,V9]) (by rw[e2];exact go rfl (Below.refl _ _) hw ⟨a9,m9,c9,rfl,f9⟩)
  ·obtain⟨o',e1,e2,e3,e4,e5⟩:=o13
   obtain rfl:=sOp ho e1
   have dp:=dPo e5 hdep
   have V10:a.tmps.getD 48 undef=.int .i64 ee:=hI.val 10 48 (by decide) rfl (dp 10 (by decide))
   exact wVa (v:=.int .i64 ee) (w':=w) ho e4 (by simp[execOp,e3,ev,evc,V10]) (by rw[e2];exact go rfl (Below.refl _ _) hw rfl)
 ·intro l a w hall hI
  have all:∀ j,j<14→l j=true:=fun j hj=>hall j (by rw[hsz];exact hj)
  exact fin a w hI.size hI.defers hI.kept hI.world.1 (fun i d hi hD=>hI.val i d hi hD (all i hi))
end Go.Proofs.YthliomlmhfjhnaaGreat
