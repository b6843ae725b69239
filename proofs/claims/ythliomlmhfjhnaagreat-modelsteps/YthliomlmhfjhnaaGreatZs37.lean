/- Texts put together. -/
import Derived.Test.YthliomlmhfjhnaaGreatZs34
import Derived.Test.YthliomlmhfjhnaaGreatZs36
import Derived.Test.YthliomlmhfjhnaaGreatZs33
namespace Go.Proofs.YthliomlmhfjhnaaGreat
set_option maxRecDepth 20000
set_option maxHeartbeats 16000000
open Go.ChangeShapes Go.WideShapes Go.ChangeAt Go.RowKit
set_option linter.unusedVariables false
set_option linter.unusedSimpArgs false
section
theorem ce28:Tryz.prog.cellsOf 28=1:=by kernel_rfl
theorem ce61:Tryz.prog.cellsOf 61=4:=by kernel_rfl
theorem ce30:Tryz.prog.cellsOf 30=3:=by kernel_rfl
section
variable {H:Type}{enc:TypeId × Value→H}{W:World}{fuel:Nat}
structure grLayV where
 Y:Nat→SL
 f:Nat→List Int
def grLayV.nought:grLayV:=⟨fun _=>SL.nought,fun _=>[]⟩
theorem gropen_y {c0 c1 c2 c3:Value}{x:DataW H × List MemPlace}(h:DataW.trod enc Tryz.prog W 0 (fun _=>true) true fuel 61 [c0,c1,c2,c3]=some x) :
  ∃ y:grLayV,(∀ j,j<4→[c0,c1,c2,c3][j]? = some (y.Y j).v)∧(∀ j,j<4→IsS W (y.Y j) (y.f j))∧(Small x.1 61→∀ j,j<4→(y.f j).length≤140737488351232):=by
 obtain⟨xs,n,-,ex,-,hlen,hf⟩:=DataW.trod_struct Tryz.underlying61 h
 have hl:xs.length=4:=hlen.trans (by rfl)
 match xs,hl with
 | [x0,x1,x2,x3],_ =>
 have g0:DataW.trod enc Tryz.prog W 0 (fun _=>true) true n 24 [c0]=some x0:=by rw[show [c0]=([c0,c1,c2,c3].drop 0).take (Tryz.prog.cellsOf 24) by rw[ce24];rfl];exact hf 0 _ rfl
 have g1:DataW.trod enc Tryz.prog W 0 (fun _=>true) true n 24 [c1]=some x1:=by rw[show [c1]=([c0,c1,c2,c3].drop 1).take (Tryz.prog.cellsOf 24) by rw[ce24];rfl];exact hf 1 _ rfl
 have g2:DataW.trod enc Tryz.prog W 0 (fun _=>true) true n 24 [c2]=some x2:=by rw[show [c2]=([c0,c1,c2,c3].drop 2).take (Tryz.prog.cellsOf 24) by rw[ce24];rfl];exact hf 2 _ rfl
 have g3:DataW.trod enc Tryz.prog W 0 (fun _=>true) true n 24 [c3]=some x3:=by rw[show [c3]=([c0,c1,c2,c3].drop 3).take (Tryz.prog.cellsOf 24) by rw[ce24];rfl];exact hf 3 _ rfl
 obtain⟨s0,z0,e0,i0,w0⟩:=open_s g0
 obtain⟨s1,z1,e1,i1,w1⟩:=open_s g1
 obtain⟨s2,z2,e2,i2,w2⟩:=open_s g2
 obtain⟨s3,z3,e3,i3,w3⟩:=open_s g3
 refine⟨⟨four s0 s1 s2 s3,fun j=>[z0,z1,z2,z3].getD j []⟩,fun j hj=>?_,fun j hj=>?_,fun hs j hj=>?_⟩
 ·subst e0 e1 e2 e3
  rcases (show j=0∨j=1∨j=2∨j=3 by omega) with rfl|rfl|rfl|rfl<;>rfl
 ·rcases (show j=0∨j=1∨j=2∨j=3 by omega) with rfl|rfl|rfl|rfl<;>assumption
 ·rw[ex] at hs
  rcases (show j=0∨j=1∨j=2∨j=3 by omega) with rfl|rfl|rfl|rfl
  ·exact w0 (sFi Tryz.underlying61 hs (j:=0) rfl rfl)
  ·exact w1 (sFi Tryz.underlying61 hs (j:=1) rfl rfl)
  ·exact w2 (sFi Tryz.underlying61 hs (j:=2) rfl rfl)
  ·exact w3 (sFi Tryz.underlying61 hs (j:=3) rfl rfl)
theorem gropen_l {c:Value}{x:DataW H × List MemPlace}(h:DataW.trod enc Tryz.prog W 0 (fun _=>true) true fuel 28 [c]=some x):∃ (s:SL) (F:Nat→grLayV),c=s.v∧(0<s.n→∃ x,s.a=some x)∧(s.a=none→s.c=0)∧s.n≤s.c∧s.n≤9223372036854775807 ∧
  (∀ x,s.a=some x→∀ i,i<s.n→∀ j,j<4→W.cell? ((x.add (i*4)).add j)=some ((F i).Y j).v)∧(∀ i,i<s.n→∀ j,j<4→IsS W ((F i).Y j) ((F i).f j))∧(Small x.1 28→∀ i,i<s.n→∀ j,j<4→((F i).f j).length≤140737488351232):=by
 rcases Go.Deep.open_slice Tryz.underlying28 h with⟨hcs,hd⟩|⟨a,len,cap,m,n,D,Pl,hcs,_,hl,hm,hmm,rfl,hx⟩
 ·obtain rfl:c=.slice none 0 0:=by simpa using hcs
  exact⟨⟨none,0,0⟩,fun _=>grLayV.nought,rfl,(fun h=>by cases h),fun _=>rfl,Nat.le_refl _,Nat.zero_le _,(fun x hx=>by cases hx),(fun i hi=>by cases hi),fun _ i hi=>by cases hi⟩
 ·obtain rfl:c=.slice (some a) len cap:=by simpa using hcs
  have hlm:len≤m:=by rw[hmm];simp;exact hl
  rw[ce61] at hx
  obtain⟨F,hF⟩:=choose_below grLayV.nought (n:=len) (p:=fun i y=>(∀ j,j<4→W.cell? ((a.add (i*4)).add j)=some (y.Y j).v)∧(∀ j,j<4→IsS W (y.Y j) (y.f j))∧(Small (D i) 61→∀ j,j<4→(y.f j).length≤140737488351232)) (fun i hi=>by
   obtain⟨cs',h1,h2⟩:=hx i (by omega)
   obtain⟨q1,hlen,q3⟩:=World.cells?_some h1
   match cs',hlen with
   | [c0,c1,c2,c3],_ =>
    obtain⟨y,ey,iy,wy⟩:=gropen_y h2
    exact⟨y,fun j hj=>(q3 j hj).trans (ey j hj),iy,wy⟩)
  refine⟨⟨some a,len,cap⟩,F,rfl,fun _=>⟨_,rfl⟩,(fun h=>by cases h),hl,by show len≤_;unfold maxLen at hm;omega,fun x hx' i hi=>?_,fun i hi=>(hF i hi).2.1,fun hs i hi=>(hF i hi).2.2 fun q hq=>hs q ?_⟩
  ·obtain rfl:=Option.some.inj hx'
   exact (hF i hi).1
  ·have unf:∀ (el sp:List (DataW H)),(DataW.slice el sp).weights Tryz.prog 28=(el.length+sp.length)*Tryz.prog.bytesOf 61 :: (DataW.weightsAll Tryz.prog 61 el++DataW.weightsAll Tryz.prog 61 sp):=fun el sp=>by simp only[DataW.weights,Tryz.underlying28]
   rw[unf]
   exact List.mem_cons_of_mem _ (List.mem_append_left _ (weights_all (List.mem_map.2 ⟨i,List.mem_range.2 hi,rfl⟩) hq))
theorem array3 {α:Type}{cs:Array α}(h:cs.size=3):∃ c0 c1 c2,cs=#[c0,c1,c2]:=by
 obtain⟨l⟩:=cs
 match l,h with
 | [c0,c1,c2],_=>exact⟨c0,c1,c2,rfl⟩
theorem open_adapter {b0:Nat}{r:Reach}{v:Value}{dd:DataW H}{p:List MemPlace}(hv:Value.okWide Tryz.prog W r b0 30 v)(h:DataW.Trod enc Tryz.prog W 0 (fun _=>true) true 30 v dd p) :
  ∃ (R S:Int) (L:SL) (Y:Nat→Nat→SL) (m:AdV),v=.agg #[.int .i64 R,.int .i64 S,.slice L.a L.n L.c]∧(Lit.int .i64 R).wf=true∧(Lit.int .i64 S).wf=true∧AdAt W L Y m∧m.ln≤9223372036854775807∧(Small dd 30→m.ln≤20→FitsA m):=by
 obtain⟨cs,rfl,hsz⟩:=okWide_struct Tryz.underlying30 hv
 obtain⟨c0,c1,c2,rfl⟩:=array3 (hsz.trans ce30)
 obtain⟨fuel,hf⟩:=h
 have hf':DataW.trod enc Tryz.prog W 0 (fun _=>true) true fuel 30 [c0,c1,c2]=some (dd,p):=by simpa [Value.cells] using hf
 obtain⟨xs,n,-,ex,-,hlen,hg⟩:=DataW.trod_struct Tryz.underlying30 hf'
 have hl:xs.length=3:=hlen.trans (by rfl)
 match xs,hl with
 | [x0,x1,x2],_ =>
 have g0:DataW.trod enc Tryz.prog W 0 (fun _=>true) true n 3 [c0]=some x0:=by rw[show [c0]=([c0,c1,c2].drop 0).take (Tryz.prog.cellsOf 3) by rw[cells3];rfl];exact hg 0 _ rfl
 have g1:DataW.trod enc Tryz.prog W 0 (fun _=>true) true n 3 [c1]=some x1:=by rw[show [c1]=([c0,c1,c2].drop 1).take (Tryz.prog.cellsOf 3) by rw[cells3];rfl];exact hg 1 _ rfl
 have g2:DataW.trod enc Tryz.prog W 0 (fun _=>true) true n 28 [c2]=some x2:=by rw[show [c2]=([c0,c1,c2].drop 2).take (Tryz.prog.cellsOf 28) by rw[ce28];rfl];exact hg 2 _ rfl
 obtain⟨R,eR,-,wR⟩:=DataW.trod_int Tryz.underlying3 g0
 obtain⟨S,eS,-,wS⟩:=DataW.trod_int Tryz.underlying3 g1
 obtain rfl:c0=.int .i64 R:=by simpa using eR
 obtain rfl:c1=.int .i64 S:=by simpa using eS
 obtain⟨L,F,eL,L1,L2,L3,L4,L5,L6,wL⟩:=gropen_l g2
 subst eL
 refine⟨R,S,L,fun i=>(F i).Y,⟨L.n,fun i=>(F i).f⟩,rfl,wR,wS,⟨rfl,L1,L2,L3,L5,L6⟩,L4,fun hs h20=>?_⟩
 have ed:dd=.agg [x0.1,x1.1,x2.1]:=congrArg Prod.fst ex
 rw[ed] at hs
 exact⟨h20,wL (sFi Tryz.underlying30 hs (j:=2) rfl rfl)⟩
end
end
theorem wpOp_panic {P:Program}{ops:Array Oper}{Q:Exit→Act→World→Prop}{i:Nat}{o:Oper}{a:Act}{w:World}{f:FuncId}{args:Array Value}{K:Act→World→Prop}(ho:ops[i]? = some o)(hg:o.guard=none)(hr:(execOp a.eval o).run P w=.ok (.enter f args) w)(c:Calls P f args w fun e w'=>∃ ch,e=.panicked ch∧Q (.panic ch) a w'):wpOp P ops Q i K a w:=by
 unfold wpOp
 simp only[ho]
 have hw:Region.wanted o (yielded ops a.tmps)=true:=by simp[Region.wanted,hg]
 rw[if_pos hw]
 refine .inl ?_
 unfold Oper.wp
 rw[hr]
 unfold Oper.upon
 refine c.mono ?_
 rintro e w' ⟨ch,rfl,hQ⟩
 exact hQ
def sfD (i:Nat):Option Nat:=match i with|0=>some 41|1=>some 42|2=>some 43|3=>some 44|4=>some 45|5=>some 46|6=>some 47|7=>some 48|8=>some 49|9=>some 50|10=>some 51|_=>none
theorem sfD_inj:∀ i,i<11→∀ j,j<11→sfD i=sfD j→sfD i≠none→i=j:=by decide
theorem sfD_lt:∀ i,i<11→∀ d,sfD i=some d→d<123:=by
 intro i hi d h
 have:∀ i,i<11→(sfD i).all (fun d=>decide (d<123))=true:=by decide
 have:=this i hi
 rw[h] at this
 simpa using this
def sfF (M:Md)(cb np pc:Nat)(pa:Option Addr)(p sz df wd:Int)(bb:Bool)(i:Nat)(q:Value)(w:World):Prop:=match i with
 | 0=>q=.slice pa np pc
 | 1=>q=.int .i64 p
 | 2=>q=.int .i64 p
 | 3=>q=.pointer (some ⟨cb,7,none⟩)
 | 4=>q=.int .i64 M.n
 | 5=>q=.int .i64 sz
 | 6=>q=.int .i64 df
 | 7=>q=.agg #[.int .i64 M.d,.int .i64 M.h,.int .i64 M.l,.int .i64 M.v,.int .i64 M.u,.int .i64 M.x,.int .i64 M.t,.int .i64 M.n]
 | 8=>q=.int .i64 wd
 | 9=>q=.bool bb
 | 10=>q=.tuple #[]
 | _=>True
theorem sfF_below {M:Md}{cb np pc:Nat}{pa:Option Addr}{p sz df wd:Int}{bb:Bool}{i:Nat}{q:Value}{w w':World}(h:sfF M cb np pc pa p sz df wd bb i q w)(hb:Below w.heap.size w w'):sfF M cb np pc pa p sz df wd bb i q w':=by
 unfold sfF at h ⊢
 split
 ·exact h
 ·exact h
 ·exact h
 ·exact h
 ·exact h
 ·exact h
 ·exact h
 ·exact h
 ·exact h
 ·exact h
 ·exact h
 ·trivial
theorem sf_region {id:Nat}{ops:Array Oper}{Q:Exit→Act→World→Prop}{a0:Act}{w0:World}(M:Md)(cb np pc:Nat)(pa:Option Addr)(p sz df wd:Int)(bb:Bool)(S:World→Prop)(hlow:lowB ops=true)(hsz:ops.size=11)
  (o0:OpIn ops 0 (some 41) (.move (.tmp 2)) none []) (o1:OpIn ops 1 (some 42) (.move (.tmp 3)) none []) (o2:OpIn ops 2 (some 43) (.move (.tmp 3)) none []) (o3:OpIn ops 3 (some 44) (.fieldAddr 23 (.tmp 12) 7) none []) (o4:OpIn ops 4 (some 45) (.load 3 (.tmp 44)) none [3]) (o5:OpIn ops 5 (some 46) (.call { callee:=.value (.func 58),args:=#[.tmp 43,.tmp 45],argTypes:=#[3,3] }) none [2,4]) (o6:OpIn ops 6 (some 47) (.binOp .sub 3 (.tmp 42) (.tmp 46) 3) none [1,5]) (o7:OpIn ops 7 (some 48) (.load 23 (.tmp 12)) none []) (o8:OpIn ops 8 (some 49) (.call { callee:=.value (.func 15),args:=#[.tmp 48],argTypes:=#[23] }) none [7]) (o9:OpIn ops 9 (some 50) (.call { callee:=.value (.func 57),args:=#[.tmp 41,.tmp 47,.tmp 49],argTypes:=#[31,3,3] }) none [0,6,8]) (o10:OpIn ops 10 (some 51) (.call { callee:=.value (.func 56),args:=#[.tmp 50,.const (.int .i64 21)],argTypes:=#[4,35] }) none [9])
  (hS:S w0.drew)
  (x3:∀ w,(Instr.fieldAt 23 (.pointer (some ⟨cb,0,none⟩)) 7).run Tryz.prog w=.ok (.pointer (some ⟨cb,7,none⟩)) w)
  (x4:∀ w,S w→(Instr.loadAt 3 (.pointer (some ⟨cb,7,none⟩))).run Tryz.prog w=.ok (.int .i64 M.n) w)
  (x5:∀ w,Calls Tryz.prog 58 #[.int .i64 p,.int .i64 M.n] w fun e w'=>e=.returned (.int .i64 sz)∧w'=w)
  (x6:∀ w,(binOp .sub 3 (.int .i64 p) (.int .i64 sz)).run Tryz.prog w=.ok (.int .i64 df) w)
  (x7:∀ w,S w→(Instr.loadAt 23 (.pointer (some ⟨cb,0,none⟩))).run Tryz.prog w=.ok (.agg #[.int .i64 M.d,.int .i64 M.h,.int .i64 M.l,.int .i64 M.v,.int .i64 M.u,.int .i64 M.x,.int .i64 M.t,.int .i64 M.n]) w)
  (x8:∀ w,S w→Calls Tryz.prog 15 #[.agg #[.int .i64 M.d,.int .i64 M.h,.int .i64 M.l,.int .i64 M.v,.int .i64 M.u,.int .i64 M.x,.int .i64 M.t,.int .i64 M.n]] w fun e w'=>e=.returned (.int .i64 wd)∧Below w.heap.size w w'∧S w')
  (x9:∀ w,S w→Calls Tryz.prog 57 #[.slice pa np pc,.int .i64 df,.int .i64 wd] w fun e w'=>e=.returned (.bool bb)∧w'=w)
  (x10:∀ w,Calls Tryz.prog 56 #[.bool bb,.int .i64 21] w fun e w'=>e=.returned (.tuple #[])∧w'=w)
  (u2:a0.tmps.getD 2 undef=.slice pa np pc)
  (u3:a0.tmps.getD 3 undef=.int .i64 p)
  (u12:a0.tmps.getD 12 undef=.pointer (some ⟨cb,0,none⟩))
  (hs:123≤a0.tmps.size)
  (fin:∀ a w,a.tmps.size=a0.tmps.size→a.defers=a0.defers→(∀ s,(∀ i,i<11→sfD i≠some s)→a.tmps.getD s undef=a0.tmps.getD s undef)→S w→(∀ i d,i<11→sfD i=some d→sfF M cb np pc pa p sz df wd bb i (a.tmps.getD d undef) w)→Q .normal a w):(Code.region id ops true).wp Tryz.prog Q a0 w0:=by
 have r15:∀ args w,(callFunc 15 args).run Tryz.prog w=.ok (.enter 15 args) w:=eNo Tryz.func15 (by kernel_rfl) rfl
 have r56:∀ args w,(callFunc 56 args).run Tryz.prog w=.ok (.enter 56 args) w:=eNo Tryz.func56 (by kernel_rfl) rfl
 have r57:∀ args w,(callFunc 57 args).run Tryz.prog w=.ok (.enter 57 args) w:=eNo Tryz.func57 (by kernel_rfl) rfl
 have r58:∀ args w,(callFunc 58 args).run Tryz.prog w=.ok (.enter 58 args) w:=eNo Tryz.func58 (by kernel_rfl) rfl
 refine wRi (by kernel_rfl) hlow (Inv 11 sfD a0 (fun l a w=>S w∧Kept2 11 sfD a0 l a) (fun _=>sfF M cb np pc pa p sz df wd bb)) (Inv.start ⟨hS,kept2_start _ _ _⟩) ?_ ?_
 ·intro l i o a w ho hl hcl hdep hI
  have hi:i<11:=by rw[←hsz];exact (Array.getElem?_eq_some_iff.1 ho).1
  have ev:∀ (s:Nat),a.eval (.tmp s)=a.tmps.getD s undef:=fun _=>rfl
  have evf:∀ f,a.eval (.func f)=.func (.func f) #[] #[]:=fun _=>rfl
  have evc:∀ c:Value,a.eval (.const c)=c:=fun _=>rfl
  have inj:∀ d,sfD i=some d→∀ j d',j<11→sfD j=some d'→j≠i→d'≠d:=fun d hd j d' hj hd' hne e=>hne (sfD_inj j hj i hi (by rw[hd',hd,e]) (by rw[hd'];simp))
  have kp:∀ s,(∀ i,i<11→sfD i≠some s)→a.tmps.getD s undef=a0.tmps.getD s undef:=hI.kept
  have hw:S w:=hI.world.1
  have k2:=hI.world.2
  have ex0:=hI.world.2
  have go:∀ {d:Nat}{v:Value}{w':World},sfD i=some d→Below w.heap.size w w'→S w'→sfF M cb np pc pa p sz df wd bb i v w'→Inv 11 sfD a0 (fun l a w=>S w∧Kept2 11 sfD a0 l a) (fun _=>sfF M cb np pc pa p sz df wd bb) (fun j=>l j || j==i) (a.put (some d) v) w':=by
   intro d v w' hD hb hS' hF
   exact hI.put hi hD (Nat.lt_of_lt_of_le (sfD_lt i hi d hD) hs) (inj d hD) ⟨hS',k2.put hD (by rw[hI.size];exact Nat.lt_of_lt_of_le (sfD_lt i hi d hD) hs) hi⟩ hF (fun j u _ _ _ hf=>sfF_below hf hb)
  rcases (show i=0∨i=1∨i=2∨i=3∨i=4∨i=5∨i=6∨i=7∨i=8∨i=9∨i=10 by omega) with rfl|rfl|rfl|rfl|rfl|rfl|rfl|rfl|rfl|rfl|rfl
  ·obtain⟨o',e1,e2,e3,e4,e5⟩:=o0
   obtain rfl:=sOp ho e1
   have dp:=dPo e5 hdep
   have U2:a.tmps.getD 2 undef=.slice pa np pc:=(kp 2 (by decide)).trans u2
   exact wVa (v:=.slice pa np pc) (w':=w) ho e4 (by simp[execOp,e3,ev,evc,U2]) (by rw[e2];exact go rfl (Below.refl _ _) hw rfl)
  ·obtain⟨o',e1,e2,e3,e4,e5⟩:=o1
   obtain rfl:=sOp ho e1
   have dp:=dPo e5 hdep
   have U3:a.tmps.getD 3 undef=.int .i64 p:=(kp 3 (by decide)).trans u3
   exact wVa (v:=.int .i64 p) (w':=w) ho e4 (by simp[execOp,e3,ev,evc,U3]) (by rw[e2];exact go rfl (Below.refl _ _) hw rfl)
  ·obtain⟨o',e1,e2,e3,e4,e5⟩:=o2
   obtain rfl:=sOp ho e1
   have dp:=dPo e5 hdep
   have U3:a.tmps.getD 3 undef=.int .i64 p:=(kp 3 (by decide)).trans u3
   exact wVa (v:=.int .i64 p) (w':=w) ho e4 (by simp[execOp,e3,ev,evc,U3]) (by rw[e2];exact go rfl (Below.refl _ _) hw rfl)
  ·obtain⟨o',e1,e2,e3,e4,e5⟩:=o3
   obtain rfl:=sOp ho e1
   have dp:=dPo e5 hdep
   have U12:a.tmps.getD 12 undef=.pointer (some ⟨cb,0,none⟩):=(kp 12 (by decide)).trans u12
   exact wVa (v:=.pointer (some ⟨cb,7,none⟩)) (w':=w) ho e4 (by simp[execOp,e3,ev,evc,U12,x3 w]) (by rw[e2];exact go rfl (Below.refl _ _) hw rfl)
  ·obtain⟨o',e1,e2,e3,e4,e5⟩:=o4
   obtain rfl:=sOp ho e1
   have dp:=dPo e5 hdep
   have V3:a.tmps.getD 44 undef=.pointer (some ⟨cb,7,none⟩):=hI.val 3 44 (by decide) rfl (dp 3 (by decide))
   exact wVa (v:=.int .i64 M.n) (w':=w) ho e4 (by simp[execOp,e3,ev,evc,V3,x4 w hw]) (by rw[e2];exact go rfl (Below.refl _ _) hw rfl)
  ·obtain⟨o',e1,e2,e3,e4,e5⟩:=o5
   obtain rfl:=sOp ho e1
   have dp:=dPo e5 hdep
   have V2:a.tmps.getD 43 undef=.int .i64 p:=hI.val 2 43 (by decide) rfl (dp 2 (by decide))
   have V4:a.tmps.getD 45 undef=.int .i64 M.n:=hI.val 4 45 (by decide) rfl (dp 4 (by decide))
   refine wCa (f:=58) (args:=#[.int .i64 p,.int .i64 M.n]) ho e4 (by simp[execOp,e3,resolve,invoke,Deferred.ofValue,r58,ev,evf,evc,V2,V4]) ((x5 w).mono ?_)
   rintro e W' ⟨rfl,hq6⟩
   refine⟨_,rfl,?_⟩
   rw[e2]
   exact go rfl (by rw[hq6];exact Below.refl _ _) (by rw[hq6];exact hw) rfl
  ·obtain⟨o',e1,e2,e3,e4,e5⟩:=o6
   obtain rfl:=sOp ho e1
   have dp:=dPo e5 hdep
   have V1:a.tmps.getD 42 undef=.int .i64 p:=hI.val 1 42 (by decide) rfl (dp 1 (by decide))
   have V5:a.tmps.getD 46 undef=.int .i64 sz:=hI.val 5 46 (by decide) rfl (dp 5 (by decide))
   exact wVa (v:=.int .i64 df) (w':=w) ho e4 (by simp[execOp,e3,ev,evc,V1,V5,x6 w,eqGuard]) (by rw[e2];exact go rfl (Below.refl _ _) hw rfl)
  ·obtain⟨o',e1,e2,e3,e4,e5⟩:=o7
   obtain rfl:=sOp ho e1
   have dp:=dPo e5 hdep
   have U12:a.tmps.getD 12 undef=.pointer (some ⟨cb,0,none⟩):=(kp 12 (by decide)).trans u12
   exact wVa (v:=.agg #[.int .i64 M.d,.int .i64 M.h,.int .i64 M.l,.int .i64 M.v,.int .i64 M.u,.int .i64 M.x,.int .i64 M.t,.int .i64 M.n]) (w':=w) ho e4 (by simp[execOp,e3,ev,evc,U12,x7 w hw]) (by rw[e2];exact go rfl (Below.refl _ _) hw rfl)
  ·obtain⟨o',e1,e2,e3,e4,e5⟩:=o8
   obtain rfl:=sOp ho e1
   have dp:=dPo e5 hdep
   have V7:a.tmps.getD 48 undef=.agg #[.int .i64 M.d,.int .i64 M.h,.int .i64 M.l,.int .i64 M.v,.int .i64 M.u,.int .i64 M.x,.int .i64 M.t,.int .i64 M.n]:=hI.val 7 48 (by decide) rfl (dp 7 (by decide))
   refine wCa (f:=15) (args:=#[.agg #[.int .i64 M.d,.int .i64 M.h,.int .i64 M.l,.int .i64 M.v,.int .i64 M.u,.int .i64 M.x,.int .i64 M.t,.int .i64 M.n]]) ho e4 (by simp[execOp,e3,resolve,invoke,Deferred.ofValue,r15,ev,evf,evc,V7]) ((x8 w hw).mono ?_)
   rintro e W' ⟨rfl,hb6,hs6⟩
   refine⟨_,rfl,?_⟩
   rw[e2]
   exact go rfl hb6 hs6 rfl
  ·obtain⟨o',e1,e2,e3,e4,e5⟩:=o9
   obtain rfl:=sOp ho e1
   have dp:=dPo e5 hdep
   have V0:a.tmps.getD 41 undef=.slice pa np pc:=hI.val 0 41 (by decide) rfl (dp 0 (by decide))
   have V6:a.tmps.getD 47 undef=.int .i64 df:=hI.val 6 47 (by decide) rfl (dp 6 (by decide))
   have V8:a.tmps.getD 49 undef=.int .i64 wd:=hI.val 8 49 (by decide) rfl (dp 8 (by decide))
   refine wCa (f:=57) (args:=#[.slice pa np pc,.int .i64 df,.int .i64 wd]) ho e4 (by simp[execOp,e3,resolve,invoke,Deferred.ofValue,r57,ev,evf,evc,V0,V6,V8]) ((x9 w hw).mono ?_)
   rintro e W' ⟨rfl,hq6⟩
   refine⟨_,rfl,?_⟩
   rw[e2]
   exact go rfl (by rw[hq6];exact Below.refl _ _) (by rw[hq6];exact hw) rfl
  ·obtain⟨o',e1,e2,e3,e4,e5⟩:=o10
   obtain rfl:=sOp ho e1
   have dp:=dPo e5 hdep
   have V9:a.tmps.getD 50 undef=.bool bb:=hI.val 9 50 (by decide) rfl (dp 9 (by decide))
   refine wCa (f:=56) (args:=#[.bool bb,.int .i64 21]) ho e4 (by simp[execOp,e3,resolve,invoke,Deferred.ofValue,r56,ev,evf,evc,V9]) ((x10 w).mono ?_)
   rintro e W' ⟨rfl,hq6⟩
   refine⟨_,rfl,?_⟩
   rw[e2]
   exact go rfl (by rw[hq6];exact Below.refl _ _) (by rw[hq6];exact hw) rfl
 ·intro l a w hall hI
  have all:∀ j,j<11→l j=true:=fun j hj=>hall j (by rw[hsz];exact hj)
  exact fin a w hI.size hI.defers hI.kept hI.world.1 (fun i d hi hD=>hI.val i d hi hD (all i hi))
def snD (i:Nat):Option Nat:=match i with|0=>some 41|1=>some 42|2=>some 43|3=>some 44|4=>some 45|5=>some 46|6=>some 47|7=>some 48|8=>some 49|9=>some 50|10=>some 51|_=>none
theorem snD_inj:∀ i,i<11→∀ j,j<11→snD i=snD j→snD i≠none→i=j:=by decide
theorem snD_lt:∀ i,i<11→∀ d,snD i=some d→d<123:=by
 intro i hi d h
 have:∀ i,i<11→(snD i).all (fun d=>decide (d<123))=true:=by decide
 have:=this i hi
 rw[h] at this
 simpa using this
def snF (M:Md)(cb np pc:Nat)(pa:Option Addr)(p sz df wd:Int)(bb:Bool)(i:Nat)(q:Value)(w:World):Prop:=match i with
 | 0=>q=.slice pa np pc
 | 1=>q=.int .i64 p
 | 2=>q=.int .i64 p
 | 3=>q=.pointer (some ⟨cb,7,none⟩)
 | 4=>q=.int .i64 M.n
 | 5=>q=.int .i64 sz
 | 6=>q=.int .i64 df
 | 7=>q=.agg #[.int .i64 M.d,.int .i64 M.h,.int .i64 M.l,.int .i64 M.v,.int .i64 M.u,.int .i64 M.x,.int .i64 M.t,.int .i64 M.n]
 | 8=>q=.int .i64 wd
 | 9=>q=.bool bb
 | 10=>False
 | _=>True
theorem snF_below {M:Md}{cb np pc:Nat}{pa:Option Addr}{p sz df wd:Int}{bb:Bool}{i:Nat}{q:Value}{w w':World}(h:snF M cb np pc pa p sz df wd bb i q w)(hb:Below w.heap.size w w'):snF M cb np pc pa p sz df wd bb i q w':=by
 unfold snF at h ⊢
 split
 ·exact h
 ·exact h
 ·exact h
 ·exact h
 ·exact h
 ·exact h
 ·exact h
 ·exact h
 ·exact h
 ·exact h
 ·exact h
 ·trivial
theorem sn_region {id:Nat}{ops:Array Oper}{Q:Exit→Act→World→Prop}{a0:Act}{w0:World}(M:Md)(cb np pc:Nat)(pa:Option Addr)(p sz df wd:Int)(bb:Bool)(S:World→Prop)(ch:List PanicEntry)(hlow:lowB ops=true)(hsz:ops.size=11)
  (o0:OpIn ops 0 (some 41) (.move (.tmp 2)) none []) (o1:OpIn ops 1 (some 42) (.move (.tmp 3)) none []) (o2:OpIn ops 2 (some 43) (.move (.tmp 3)) none []) (o3:OpIn ops 3 (some 44) (.fieldAddr 23 (.tmp 12) 7) none []) (o4:OpIn ops 4 (some 45) (.load 3 (.tmp 44)) none [3]) (o5:OpIn ops 5 (some 46) (.call { callee:=.value (.func 58),args:=#[.tmp 43,.tmp 45],argTypes:=#[3,3] }) none [2,4]) (o6:OpIn ops 6 (some 47) (.binOp .sub 3 (.tmp 42) (.tmp 46) 3) none [1,5]) (o7:OpIn ops 7 (some 48) (.load 23 (.tmp 12)) none []) (o8:OpIn ops 8 (some 49) (.call { callee:=.value (.func 15),args:=#[.tmp 48],argTypes:=#[23] }) none [7]) (o9:OpIn ops 9 (some 50) (.call { callee:=.value (.func 57),args:=#[.tmp 41,.tmp 47,.tmp 49],argTypes:=#[31,3,3] }) none [0,6,8]) (o10:OpIn ops 10 (some 51) (.call { callee:=.value (.func 56),args:=#[.tmp 50,.const (.int .i64 21)],argTypes:=#[4,35] }) none [9])
  (hS:S w0.drew)
  (x3:∀ w,(Instr.fieldAt 23 (.pointer (some ⟨cb,0,none⟩)) 7).run Tryz.prog w=.ok (.pointer (some ⟨cb,7,none⟩)) w)
  (x4:∀ w,S w→(Instr.loadAt 3 (.pointer (some ⟨cb,7,none⟩))).run Tryz.prog w=.ok (.int .i64 M.n) w)
  (x5:∀ w,Calls Tryz.prog 58 #[.int .i64 p,.int .i64 M.n] w fun e w'=>e=.returned (.int .i64 sz)∧w'=w)
  (x6:∀ w,(binOp .sub 3 (.int .i64 p) (.int .i64 sz)).run Tryz.prog w=.ok (.int .i64 df) w)
  (x7:∀ w,S w→(Instr.loadAt 23 (.pointer (some ⟨cb,0,none⟩))).run Tryz.prog w=.ok (.agg #[.int .i64 M.d,.int .i64 M.h,.int .i64 M.l,.int .i64 M.v,.int .i64 M.u,.int .i64 M.x,.int .i64 M.t,.int .i64 M.n]) w)
  (x8:∀ w,S w→Calls Tryz.prog 15 #[.agg #[.int .i64 M.d,.int .i64 M.h,.int .i64 M.l,.int .i64 M.v,.int .i64 M.u,.int .i64 M.x,.int .i64 M.t,.int .i64 M.n]] w fun e w'=>e=.returned (.int .i64 wd)∧Below w.heap.size w w'∧S w')
  (x9:∀ w,S w→Calls Tryz.prog 57 #[.slice pa np pc,.int .i64 df,.int .i64 wd] w fun e w'=>e=.returned (.bool bb)∧w'=w)
  (x10:∀ w,Calls Tryz.prog 56 #[.bool bb,.int .i64 21] w fun e w'=>e=.panicked ch∧w'=w)
  (u2:a0.tmps.getD 2 undef=.slice pa np pc)
  (u3:a0.tmps.getD 3 undef=.int .i64 p)
  (u12:a0.tmps.getD 12 undef=.pointer (some ⟨cb,0,none⟩))
  (hs:123≤a0.tmps.size)
  (pan:∀ a w,a.defers=a0.defers→S w→Q (.panic ch) a w):(Code.region id ops true).wp Tryz.prog Q a0 w0:=by
 have r15:∀ args w,(callFunc 15 args).run Tryz.prog w=.ok (.enter 15 args) w:=eNo Tryz.func15 (by kernel_rfl) rfl
 have r56:∀ args w,(callFunc 56 args).run Tryz.prog w=.ok (.enter 56 args) w:=eNo Tryz.func56 (by kernel_rfl) rfl
 have r57:∀ args w,(callFunc 57 args).run Tryz.prog w=.ok (.enter 57 args) w:=eNo Tryz.func57 (by kernel_rfl) rfl
 have r58:∀ args w,(callFunc 58 args).run Tryz.prog w=.ok (.enter 58 args) w:=eNo Tryz.func58 (by kernel_rfl) rfl
 refine wRi (by kernel_rfl) hlow (Inv 11 snD a0 (fun l a w=>S w∧Kept2 11 snD a0 l a) (fun _=>snF M cb np pc pa p sz df wd bb)) (Inv.start ⟨hS,kept2_start _ _ _⟩) ?_ ?_
 ·intro l i o a w ho hl hcl hdep hI
  have hi:i<11:=by rw[←hsz];exact (Array.getElem?_eq_some_iff.1 ho).1
  have ev:∀ (s:Nat),a.eval (.tmp s)=a.tmps.getD s undef:=fun _=>rfl
  have evf:∀ f,a.eval (.func f)=.func (.func f) #[] #[]:=fun _=>rfl
  have evc:∀ c:Value,a.eval (.const c)=c:=fun _=>rfl
  have inj:∀ d,snD i=some d→∀ j d',j<11→snD j=some d'→j≠i→d'≠d:=fun d hd j d' hj hd' hne e=>hne (snD_inj j hj i hi (by rw[hd',hd,e]) (by rw[hd'];simp))
  have kp:∀ s,(∀ i,i<11→snD i≠some s)→a.tmps.getD s undef=a0.tmps.getD s undef:=hI.kept
  have hw:S w:=hI.world.1
  have k2:=hI.world.2
  have ex0:=hI.world.2
  have go:∀ {d:Nat}{v:Value}{w':World},snD i=some d→Below w.heap.size w w'→S w'→snF M cb np pc pa p sz df wd bb i v w'→Inv 11 snD a0 (fun l a w=>S w∧Kept2 11 snD a0 l a) (fun _=>snF M cb np pc pa p sz df wd bb) (fun j=>l j || j==i) (a.put (some d) v) w':=by
   intro d v w' hD hb hS' hF
   exact hI.put hi hD (Nat.lt_of_lt_of_le (snD_lt i hi d hD) hs) (inj d hD) ⟨hS',k2.put hD (by rw[hI.size];exact Nat.lt_of_lt_of_le (snD_lt i hi d hD) hs) hi⟩ hF (fun j u _ _ _ hf=>snF_below hf hb)
  rcases (show i=0∨i=1∨i=2∨i=3∨i=4∨i=5∨i=6∨i=7∨i=8∨i=9∨i=10 by omega) with rfl|rfl|rfl|rfl|rfl|rfl|rfl|rfl|rfl|rfl|rfl
  ·obtain⟨o',e1,e2,e3,e4,e5⟩:=o0
   obtain rfl:=sOp ho e1
   have dp:=dPo e5 hdep
   have U2:a.tmps.getD 2 undef=.slice pa np pc:=(kp 2 (by decide)).trans u2
   exact wVa (v:=.slice pa np pc) (w':=w) ho e4 (by simp[execOp,e3,ev,evc,U2]) (by rw[e2];exact go rfl (Below.refl _ _) hw rfl)
  ·obtain⟨o',e1,e2,e3,e4,e5⟩:=o1
   obtain rfl:=sOp ho e1
   have dp:=dPo e5 hdep
   have U3:a.tmps.getD 3 undef=.int .i64 p:=(kp 3 (by decide)).trans u3
   exact wVa (v:=.int .i64 p) (w':=w) ho e4 (by simp[execOp,e3,ev,evc,U3]) (by rw[e2];exact go rfl (Below.refl _ _) hw rfl)
  ·obtain⟨o',e1,e2,e3,e4,e5⟩:=o2
   obtain rfl:=sOp ho e1
   have dp:=dPo e5 hdep
   have U3:a.tmps.getD 3 undef=.int .i64 p:=(kp 3 (by decide)).trans u3
   exact wVa (v:=.int .i64 p) (w':=w) ho e4 (by simp[execOp,e3,ev,evc,U3]) (by rw[e2];exact go rfl (Below.refl _ _) hw rfl)
  ·obtain⟨o',e1,e2,e3,e4,e5⟩:=o3
   obtain rfl:=sOp ho e1
   have dp:=dPo e5 hdep
   have U12:a.tmps.getD 12 undef=.pointer (some ⟨cb,0,none⟩):=(kp 12 (by decide)).trans u12
   exact wVa (v:=.pointer (some ⟨cb,7,none⟩)) (w':=w) ho e4 (by simp[execOp,e3,ev,evc,U12,x3 w]) (by rw[e2];exact go rfl (Below.refl _ _) hw rfl)
  ·obtain⟨o',e1,e2,e3,e4,e5⟩:=o4
   obtain rfl:=sOp ho e1
   have dp:=dPo e5 hdep
   have V3:a.tmps.getD 44 undef=.pointer (some ⟨cb,7,none⟩):=hI.val 3 44 (by decide) rfl (dp 3 (by decide))
   exact wVa (v:=.int .i64 M.n) (w':=w) ho e4 (by simp[execOp,e3,ev,evc,V3,x4 w hw]) (by rw[e2];exact go rfl (Below.refl _ _) hw rfl)
  ·obtain⟨o',e1,e2,e3,e4,e5⟩:=o5
   obtain rfl:=sOp ho e1
   have dp:=dPo e5 hdep
   have V2:a.tmps.getD 43 undef=.int .i64 p:=hI.val 2 43 (by decide) rfl (dp 2 (by decide))
   have V4:a.tmps.getD 45 undef=.int .i64 M.n:=hI.val 4 45 (by decide) rfl (dp 4 (by decide))
   refine wCa (f:=58) (args:=#[.int .i64 p,.int .i64 M.n]) ho e4 (by simp[execOp,e3,resolve,invoke,Deferred.ofValue,r58,ev,evf,evc,V2,V4]) ((x5 w).mono ?_)
   rintro e W' ⟨rfl,hq6⟩
   refine⟨_,rfl,?_⟩
   rw[e2]
   exact go rfl (by rw[hq6];exact Below.refl _ _) (by rw[hq6];exact hw) rfl
  ·obtain⟨o',e1,e2,e3,e4,e5⟩:=o6
   obtain rfl:=sOp ho e1
   have dp:=dPo e5 hdep
   have V1:a.tmps.getD 42 undef=.int .i64 p:=hI.val 1 42 (by decide) rfl (dp 1 (by decide))
   have V5:a.tmps.getD 46 undef=.int .i64 sz:=hI.val 5 46 (by decide) rfl (dp 5 (by decide))
   exact wVa (v:=.int .i64 df) (w':=w) ho e4 (by simp[execOp,e3,ev,evc,V1,V5,x6 w,eqGuard]) (by rw[e2];exact go rfl (Below.refl _ _) hw rfl)
  ·obtain⟨o',e1,e2,e3,e4,e5⟩:=o7
   obtain rfl:=sOp ho e1
   have dp:=dPo e5 hdep
   have U12:a.tmps.getD 12 undef=.pointer (some ⟨cb,0,none⟩):=(kp 12 (by decide)).trans u12
   exact wVa (v:=.agg #[.int .i64 M.d,.int .i64 M.h,.int .i64 M.l,.int .i64 M.v,.int .i64 M.u,.int .i64 M.x,.int .i64 M.t,.int .i64 M.n]) (w':=w) ho e4 (by simp[execOp,e3,ev,evc,U12,x7 w hw]) (by rw[e2];exact go rfl (Below.refl _ _) hw rfl)
  ·obtain⟨o',e1,e2,e3,e4,e5⟩:=o8
   obtain rfl:=sOp ho e1
   have dp:=dPo e5 hdep
   have V7:a.tmps.getD 48 undef=.agg #[.int .i64 M.d,.int .i64 M.h,.int .i64 M.l,.int .i64 M.v,.int .i64 M.u,.int .i64 M.x,.int .i64 M.t,.int .i64 M.n]:=hI.val 7 48 (by decide) rfl (dp 7 (by decide))
   refine wCa (f:=15) (args:=#[.agg #[.int .i64 M.d,.int .i64 M.h,.int .i64 M.l,.int .i64 M.v,.int .i64 M.u,.int .i64 M.x,.int .i64 M.t,.int .i64 M.n]]) ho e4 (by simp[execOp,e3,resolve,invoke,Deferred.ofValue,r15,ev,evf,evc,V7]) ((x8 w hw).mono ?_)
   rintro e W' ⟨rfl,hb6,hs6⟩
   refine⟨_,rfl,?_⟩
   rw[e2]
   exact go rfl hb6 hs6 rfl
  ·obtain⟨o',e1,e2,e3,e4,e5⟩:=o9
   obtain rfl:=sOp ho e1
   have dp:=dPo e5 hdep
   have V0:a.tmps.getD 41 undef=.slice pa np pc:=hI.val 0 41 (by decide) rfl (dp 0 (by decide))
   have V6:a.tmps.getD 47 undef=.int .i64 df:=hI.val 6 47 (by decide) rfl (dp 6 (by decide))
   have V8:a.tmps.getD 49 undef=.int .i64 wd:=hI.val 8 49 (by decide) rfl (dp 8 (by decide))
   refine wCa (f:=57) (args:=#[.slice pa np pc,.int .i64 df,.int .i64 wd]) ho e4 (by simp[execOp,e3,resolve,invoke,Deferred.ofValue,r57,ev,evf,evc,V0,V6,V8]) ((x9 w hw).mono ?_)
   rintro e W' ⟨rfl,hq6⟩
   refine⟨_,rfl,?_⟩
   rw[e2]
   exact go rfl (by rw[hq6];exact Below.refl _ _) (by rw[hq6];exact hw) rfl
  ·obtain⟨o',e1,e2,e3,e4,e5⟩:=o10
   obtain rfl:=sOp ho e1
   have dp:=dPo e5 hdep
   have V9:a.tmps.getD 50 undef=.bool bb:=hI.val 9 50 (by decide) rfl (dp 9 (by decide))
   refine wpOp_panic (f:=56) (args:=#[.bool bb,.int .i64 21]) ho e4 (by simp[execOp,e3,resolve,invoke,Deferred.ofValue,r56,ev,evf,evc,V9]) ((x10 w).mono ?_)
   rintro e W' ⟨rfl,hq⟩
   exact⟨ch,rfl,pan a W' hI.defers (by rw[hq];exact hw)⟩
 ·intro l a w hall hI
  have all:∀ j,j<11→l j=true:=fun j hj=>hall j (by rw[hsz];exact hj)
  exact (hI.val 10 51 (by decide) rfl (all 10 (by decide)):False).elim
def scD (i:Nat):Option Nat:=match i with|0=>some 76|1=>some 77|2=>some 78|3=>some 79|4=>some 80|5=>some 81|6=>some 82|7=>some 83|8=>some 84|9=>some 85|10=>some 86|11=>some 87|12=>some 88|13=>some 20|14=>some 21|_=>none
theorem scD_inj:∀ i,i<15→∀ j,j<15→scD i=scD j→scD i≠none→i=j:=by decide
theorem scD_lt:∀ i,i<15→∀ d,scD i=some d→d<123:=by
 intro i hi d h
 have:∀ i,i<15→(scD i).all (fun d=>decide (d<123))=true:=by decide
 have:=this i hi
 rw[h] at this
 simpa using this
def scF (cb n pc f1 f2 g:Nat)(pa:Option Addr)(dd:Int)(A1 A2:Nat→Option Addr)(C1:Nat→Nat)(K V:Nat→List Int)(i:Nat)(q:Value)(w:World):Prop:=match i with
 | 0=>q=.slice pa n pc
 | 1=>q=.int .i64 f1
 | 2=>q=.pointer (some ⟨cb,0,none⟩)
 | 3=>q=.int .i64 dd
 | 4=>q=.slice (some ⟨g,0,none⟩) n (n+1)∧OwnGrid g w (.slice (some ⟨g,0,none⟩) n (n+1)) n A1 C1 K
 | 5=>q=.slice pa n pc
 | 6=>q=.int .i64 f1
 | 7=>q=.pointer (some ⟨cb,0,none⟩)
 | 8=>q=.int .i64 dd
 | 9=>q=.int .i64 f2
 | 10=>q=.pointer (some ⟨cb,0,none⟩)
 | 11=>q=.int .i64 dd
 | 12=>∃ b,q=.slice (some ⟨b,0,none⟩) n (n+1)∧g<b∧OwnGrid g w (.slice (some ⟨b,0,none⟩) n (n+1)) n A2 C1 V
 | 13=>q=.slice (some ⟨g,0,none⟩) n (n+1)∧OwnGrid g w (.slice (some ⟨g,0,none⟩) n (n+1)) n A1 C1 K
 | 14=>∃ b,q=.slice (some ⟨b,0,none⟩) n (n+1)∧g<b∧OwnGrid g w (.slice (some ⟨b,0,none⟩) n (n+1)) n A2 C1 V
 | _=>True
theorem scF_below {cb n pc f1 f2 g:Nat}{pa:Option Addr}{dd:Int}{A1 A2:Nat→Option Addr}{C1:Nat→Nat}{K V:Nat→List Int}{i:Nat}{q:Value}{w w':World}(h:scF cb n pc f1 f2 g pa dd A1 A2 C1 K V i q w)(hb:Below w.heap.size w w'):scF cb n pc f1 f2 g pa dd A1 A2 C1 K V i q w':=by
 unfold scF at h ⊢
 split
 ·exact h
 ·exact h
 ·exact h
 ·exact h
 ·exact⟨h.1,h.2.below hb⟩
 ·exact h
 ·exact h
 ·exact h
 ·exact h
 ·exact h
 ·exact h
 ·exact h
 ·obtain⟨b,h1,h2,h3⟩:=h;exact⟨b,h1,h2,h3.below hb⟩
 ·exact⟨h.1,h.2.below hb⟩
 ·obtain⟨b,h1,h2,h3⟩:=h;exact⟨b,h1,h2,h3.below hb⟩
 ·trivial
theorem sc_region {id:Nat}{ops:Array Oper}{Q:Exit→Act→World→Prop}{a0:Act}{w0:World}(cb n pc f1 f2 g:Nat)(pa:Option Addr)(dd:Int)(A1 A2:Nat→Option Addr)(C1:Nat→Nat)(K V:Nat→List Int)(S:World→Prop)(hlow:lowB ops=true)(hsz:ops.size=15)
  (o0:OpIn ops 0 (some 76) (.move (.tmp 2)) none []) (o1:OpIn ops 1 (some 77) (.move (.tmp 19)) none []) (o2:OpIn ops 2 (some 78) (.fieldAddr 23 (.tmp 12) 0) none []) (o3:OpIn ops 3 (some 79) (.load 3 (.tmp 78)) none [2]) (o4:OpIn ops 4 (some 80) (.call { callee:=.value (.func 61),args:=#[.tmp 76,.tmp 77,.tmp 79],argTypes:=#[31,3,3] }) none [0,1,3]) (o5:OpIn ops 5 (some 81) (.move (.tmp 2)) none []) (o6:OpIn ops 6 (some 82) (.move (.tmp 19)) none []) (o7:OpIn ops 7 (some 83) (.fieldAddr 23 (.tmp 12) 0) none []) (o8:OpIn ops 8 (some 84) (.load 3 (.tmp 83)) none [7]) (o9:OpIn ops 9 (some 85) (.binOp .add 3 (.tmp 82) (.tmp 84) 3) none [6,8]) (o10:OpIn ops 10 (some 86) (.fieldAddr 23 (.tmp 12) 0) none []) (o11:OpIn ops 11 (some 87) (.load 3 (.tmp 86)) none [10]) (o12:OpIn ops 12 (some 88) (.call { callee:=.value (.func 61),args:=#[.tmp 81,.tmp 85,.tmp 87],argTypes:=#[31,3,3] }) none [4,5,9,11]) (o13:OpIn ops 13 (some 20) (.assign (.tmp 80)) none [4]) (o14:OpIn ops 14 (some 21) (.assign (.tmp 88)) none [12])
  (hS:S w0.drew)
  (x2:∀ w,(Instr.fieldAt 23 (.pointer (some ⟨cb,0,none⟩)) 0).run Tryz.prog w=.ok (.pointer (some ⟨cb,0,none⟩)) w)
  (x3:∀ w,S w→(Instr.loadAt 3 (.pointer (some ⟨cb,0,none⟩))).run Tryz.prog w=.ok (.int .i64 dd) w)
  (x4:∀ w,S w→w.heap.size=g→Calls Tryz.prog 61 #[.slice pa n pc,.int .i64 f1,.int .i64 dd] w fun e w'=>e=.returned (.slice (some ⟨g,0,none⟩) n (n+1))∧OwnGrid g w' (.slice (some ⟨g,0,none⟩) n (n+1)) n A1 C1 K∧Below w.heap.size w w'∧S w')
  (x7:∀ w,(Instr.fieldAt 23 (.pointer (some ⟨cb,0,none⟩)) 0).run Tryz.prog w=.ok (.pointer (some ⟨cb,0,none⟩)) w)
  (x8:∀ w,S w→(Instr.loadAt 3 (.pointer (some ⟨cb,0,none⟩))).run Tryz.prog w=.ok (.int .i64 dd) w)
  (x9:∀ w,(binOp .add 3 (.int .i64 f1) (.int .i64 dd)).run Tryz.prog w=.ok (.int .i64 f2) w)
  (x10:∀ w,(Instr.fieldAt 23 (.pointer (some ⟨cb,0,none⟩)) 0).run Tryz.prog w=.ok (.pointer (some ⟨cb,0,none⟩)) w)
  (x11:∀ w,S w→(Instr.loadAt 3 (.pointer (some ⟨cb,0,none⟩))).run Tryz.prog w=.ok (.int .i64 dd) w)
  (x12:∀ w,S w→g<w.heap.size→Calls Tryz.prog 61 #[.slice pa n pc,.int .i64 f2,.int .i64 dd] w fun e w'=>∃ b,e=.returned (.slice (some ⟨b,0,none⟩) n (n+1))∧g<b∧OwnGrid g w' (.slice (some ⟨b,0,none⟩) n (n+1)) n A2 C1 V∧Below w.heap.size w w'∧S w')
  (u2:a0.tmps.getD 2 undef=.slice pa n pc)
  (u12:a0.tmps.getD 12 undef=.pointer (some ⟨cb,0,none⟩))
  (u19:a0.tmps.getD 19 undef=.int .i64 f1)
  (hg:w0.heap.size=g)
  (hs:123≤a0.tmps.size)
  (fin:∀ a w,a.tmps.size=a0.tmps.size→a.defers=a0.defers→(∀ s,(∀ i,i<15→scD i≠some s)→a.tmps.getD s undef=a0.tmps.getD s undef)→S w→(∀ i d,i<15→scD i=some d→scF cb n pc f1 f2 g pa dd A1 A2 C1 K V i (a.tmps.getD d undef) w)→Q .normal a w):(Code.region id ops true).wp Tryz.prog Q a0 w0:=by
 have r61:∀ args w,(callFunc 61 args).run Tryz.prog w=.ok (.enter 61 args) w:=eNo Tryz.func61 (by kernel_rfl) rfl
 refine wRi (by kernel_rfl) hlow (Inv 15 scD a0 (fun l a w=>S w∧Kept2 15 scD a0 l a∧(l 4=false→w.heap.size=g)) (fun _=>scF cb n pc f1 f2 g pa dd A1 A2 C1 K V)) (Inv.start ⟨hS,kept2_start _ _ _,(fun _=>hg)⟩) ?_ ?_
 ·intro l i o a w ho hl hcl hdep hI
  have hi:i<15:=by rw[←hsz];exact (Array.getElem?_eq_some_iff.1 ho).1
  have ev:∀ (s:Nat),a.eval (.tmp s)=a.tmps.getD s undef:=fun _=>rfl
  have evf:∀ f,a.eval (.func f)=.func (.func f) #[] #[]:=fun _=>rfl
  have evc:∀ c:Value,a.eval (.const c)=c:=fun _=>rfl
  have inj:∀ d,scD i=some d→∀ j d',j<15→scD j=some d'→j≠i→d'≠d:=fun d hd j d' hj hd' hne e=>hne (scD_inj j hj i hi (by rw[hd',hd,e]) (by rw[hd'];simp))
  have kp:∀ s,(∀ i,i<15→scD i≠some s)→a.tmps.getD s undef=a0.tmps.getD s undef:=hI.kept
  have hw:S w:=hI.world.1
  have k2:=hI.world.2.1
  have ex0:=hI.world.2
  have go:∀ {d:Nat}{v:Value}{w':World},scD i=some d→Below w.heap.size w w'→S w'→((l 4 || 4==i)=false→w'.heap.size=g)→scF cb n pc f1 f2 g pa dd A1 A2 C1 K V i v w'→Inv 15 scD a0 (fun l a w=>S w∧Kept2 15 scD a0 l a∧(l 4=false→w.heap.size=g)) (fun _=>scF cb n pc f1 f2 g pa dd A1 A2 C1 K V) (fun j=>l j || j==i) (a.put (some d) v) w':=by
   intro d v w' hD hb hS' hX hF
   exact hI.put hi hD (Nat.lt_of_lt_of_le (scD_lt i hi d hD) hs) (inj d hD) ⟨hS',k2.put hD (by rw[hI.size];exact Nat.lt_of_lt_of_le (scD_lt i hi d hD) hs) hi,hX⟩ hF (fun j u _ _ _ hf=>scF_below hf hb)
  rcases (show i=0∨i=1∨i=2∨i=3∨i=4∨i=5∨i=6∨i=7∨i=8∨i=9∨i=10∨i=11∨i=12∨i=13∨i=14 by omega) with rfl|rfl|rfl|rfl|rfl|rfl|rfl|rfl|rfl|rfl|rfl|rfl|rfl|rfl|rfl
  ·obtain⟨o',e1,e2,e3,e4,e5⟩:=o0
   obtain rfl:=sOp ho e1
   have dp:=dPo e5 hdep
   have U2:a.tmps.getD 2 undef=.slice pa n pc:=(kp 2 (by decide)).trans u2
   exact wVa (v:=.slice pa n pc) (w':=w) ho e4 (by simp[execOp,e3,ev,evc,U2]) (by rw[e2];exact go rfl (Below.refl _ _) hw (fun e=>ex0.2 (by simpa using e)) rfl)
  ·obtain⟨o',e1,e2,e3,e4,e5⟩:=o1
   obtain rfl:=sOp ho e1
   have dp:=dPo e5 hdep
   have U19:a.tmps.getD 19 undef=.int .i64 f1:=(kp 19 (by decide)).trans u19
   exact wVa (v:=.int .i64 f1) (w':=w) ho e4 (by simp[execOp,e3,ev,evc,U19]) (by rw[e2];exact go rfl (Below.refl _ _) hw (fun e=>ex0.2 (by simpa using e)) rfl)
  ·obtain⟨o',e1,e2,e3,e4,e5⟩:=o2
   obtain rfl:=sOp ho e1
   have dp:=dPo e5 hdep
   have U12:a.tmps.getD 12 undef=.pointer (some ⟨cb,0,none⟩):=(kp 12 (by decide)).trans u12
   exact wVa (v:=.pointer (some ⟨cb,0,none⟩)) (w':=w) ho e4 (by simp[execOp,e3,ev,evc,U12,x2 w]) (by rw[e2];exact go rfl (Below.refl _ _) hw (fun e=>ex0.2 (by simpa using e)) rfl)
  ·obtain⟨o',e1,e2,e3,e4,e5⟩:=o3
   obtain rfl:=sOp ho e1
   have dp:=dPo e5 hdep
   have V2:a.tmps.getD 78 undef=.pointer (some ⟨cb,0,none⟩):=hI.val 2 78 (by decide) rfl (dp 2 (by decide))
   exact wVa (v:=.int .i64 dd) (w':=w) ho e4 (by simp[execOp,e3,ev,evc,V2,x3 w hw]) (by rw[e2];exact go rfl (Below.refl _ _) hw (fun e=>ex0.2 (by simpa using e)) rfl)
  ·obtain⟨o',e1,e2,e3,e4,e5⟩:=o4
   obtain rfl:=sOp ho e1
   have dp:=dPo e5 hdep
   have V0:a.tmps.getD 76 undef=.slice pa n pc:=hI.val 0 76 (by decide) rfl (dp 0 (by decide))
   have V1:a.tmps.getD 77 undef=.int .i64 f1:=hI.val 1 77 (by decide) rfl (dp 1 (by decide))
   have V3:a.tmps.getD 79 undef=.int .i64 dd:=hI.val 3 79 (by decide) rfl (dp 3 (by decide))
   refine wCa (f:=61) (args:=#[.slice pa n pc,.int .i64 f1,.int .i64 dd]) ho e4 (by simp[execOp,e3,resolve,invoke,Deferred.ofValue,r61,ev,evf,evc,V0,V1,V3]) ((x4 w hw (ex0.2 hl)).mono ?_)
   rintro e W' ⟨rfl,ho6,hb6,hs6⟩
   refine⟨_,rfl,?_⟩
   rw[e2]
   exact go rfl hb6 hs6 (fun e=>by simp at e) ⟨rfl,ho6⟩
  ·obtain⟨o',e1,e2,e3,e4,e5⟩:=o5
   obtain rfl:=sOp ho e1
   have dp:=dPo e5 hdep
   have U2:a.tmps.getD 2 undef=.slice pa n pc:=(kp 2 (by decide)).trans u2
   exact wVa (v:=.slice pa n pc) (w':=w) ho e4 (by simp[execOp,e3,ev,evc,U2]) (by rw[e2];exact go rfl (Below.refl _ _) hw (fun e=>ex0.2 (by simpa using e)) rfl)
  ·obtain⟨o',e1,e2,e3,e4,e5⟩:=o6
   obtain rfl:=sOp ho e1
   have dp:=dPo e5 hdep
   have U19:a.tmps.getD 19 undef=.int .i64 f1:=(kp 19 (by decide)).trans u19
   exact wVa (v:=.int .i64 f1) (w':=w) ho e4 (by simp[execOp,e3,ev,evc,U19]) (by rw[e2];exact go rfl (Below.refl _ _) hw (fun e=>ex0.2 (by simpa using e)) rfl)
  ·obtain⟨o',e1,e2,e3,e4,e5⟩:=o7
   obtain rfl:=sOp ho e1
   have dp:=dPo e5 hdep
   have U12:a.tmps.getD 12 undef=.pointer (some ⟨cb,0,none⟩):=(kp 12 (by decide)).trans u12
   exact wVa (v:=.pointer (some ⟨cb,0,none⟩)) (w':=w) ho e4 (by simp[execOp,e3,ev,evc,U12,x7 w]) (by rw[e2];exact go rfl (Below.refl _ _) hw (fun e=>ex0.2 (by simpa using e)) rfl)
  ·obtain⟨o',e1,e2,e3,e4,e5⟩:=o8
   obtain rfl:=sOp ho e1
   have dp:=dPo e5 hdep
   have V7:a.tmps.getD 83 undef=.pointer (some ⟨cb,0,none⟩):=hI.val 7 83 (by decide) rfl (dp 7 (by decide))
   exact wVa (v:=.int .i64 dd) (w':=w) ho e4 (by simp[execOp,e3,ev,evc,V7,x8 w hw]) (by rw[e2];exact go rfl (Below.refl _ _) hw (fun e=>ex0.2 (by simpa using e)) rfl)
  ·obtain⟨o',e1,e2,e3,e4,e5⟩:=o9
   obtain rfl:=sOp ho e1
   have dp:=dPo e5 hdep
   have V6:a.tmps.getD 82 undef=.int .i64 f1:=hI.val 6 82 (by decide) rfl (dp 6 (by decide))
   have V8:a.tmps.getD 84 undef=.int .i64 dd:=hI.val 8 84 (by decide) rfl (dp 8 (by decide))
   exact wVa (v:=.int .i64 f2) (w':=w) ho e4 (by simp[execOp,e3,ev,evc,V6,V8,x9 w,eqGuard]) (by rw[e2];exact go rfl (Below.refl _ _) hw (fun e=>ex0.2 (by simpa using e)) rfl)
  ·obtain⟨o',e1,e2,e3,e4,e5⟩:=o10
   obtain rfl:=sOp ho e1
   have dp:=dPo e5 hdep
   have U12:a.tmps.getD 12 undef=.pointer (some ⟨cb,0,none⟩):=(kp 12 (by decide)).trans u12
   exact wVa (v:=.pointer (some ⟨cb,0,none⟩)) (w':=w) ho e4 (by simp[execOp,e3,ev,evc,U12,x10 w]) (by rw[e2];exact go rfl (Below.refl _ _) hw (fun e=>ex0.2 (by simpa using e)) rfl)
  ·obtain⟨o',e1,e2,e3,e4,e5⟩:=o11
   obtain rfl:=sOp ho e1
   have dp:=dPo e5 hdep
   have V10:a.tmps.getD 86 undef=.pointer (some ⟨cb,0,none⟩):=hI.val 10 86 (by decide) rfl (dp 10 (by decide))
   exact wVa (v:=.int .i64 dd) (w':=w) ho e4 (by simp[execOp,e3,ev,evc,V10,x11 w hw]) (by rw[e2];exact go rfl (Below.refl _ _) hw (fun e=>ex0.2 (by simpa using e)) rfl)
  ·obtain⟨o',e1,e2,e3,e4,e5⟩:=o12
   obtain rfl:=sOp ho e1
   have dp:=dPo e5 hdep
   obtain⟨V4,f4⟩:a.tmps.getD 80 undef=.slice (some ⟨g,0,none⟩) n (n+1)∧OwnGrid g w (.slice (some ⟨g,0,none⟩) n (n+1)) n A1 C1 K:=hI.val 4 80 (by decide) rfl (dp 4 (by decide))
   have V5:a.tmps.getD 81 undef=.slice pa n pc:=hI.val 5 81 (by decide) rfl (dp 5 (by decide))
   have V9:a.tmps.getD 85 undef=.int .i64 f2:=hI.val 9 85 (by decide) rfl (dp 9 (by decide))
   have V11:a.tmps.getD 87 undef=.int .i64 dd:=hI.val 11 87 (by decide) rfl (dp 11 (by decide))
   refine wCa (f:=61) (args:=#[.slice pa n pc,.int .i64 f2,.int .i64 dd]) ho e4 (by simp[execOp,e3,resolve,invoke,Deferred.ofValue,r61,ev,evf,evc,V4,V5,V9,V11]) ((x12 w hw (f4.own.lt g rfl).2).mono ?_)
   rintro e W' ⟨b,rfl,hz6,ho6,hb6,hs6⟩
   refine⟨_,rfl,?_⟩
   rw[e2]
   exact go rfl hb6 hs6 (fun e=>by rw[dp 4 (by decide)] at e;simp at e) ⟨b,rfl,hz6,ho6⟩
  ·obtain⟨o',e1,e2,e3,e4,e5⟩:=o13
   obtain rfl:=sOp ho e1
   have dp:=dPo e5 hdep
   obtain⟨V4,f4⟩:a.tmps.getD 80 undef=.slice (some ⟨g,0,none⟩) n (n+1)∧OwnGrid g w (.slice (some ⟨g,0,none⟩) n (n+1)) n A1 C1 K:=hI.val 4 80 (by decide) rfl (dp 4 (by decide))
   exact wVa (v:=.slice (some ⟨g,0,none⟩) n (n+1)) (w':=w) ho e4 (by simp[execOp,e3,ev,evc,V4]) (by rw[e2];exact go rfl (Below.refl _ _) hw (fun e=>ex0.2 (by simpa using e)) ⟨rfl,f4⟩)
  ·obtain⟨o',e1,e2,e3,e4,e5⟩:=o14
   obtain rfl:=sOp ho e1
   have dp:=dPo e5 hdep
   obtain⟨b12,V12,z12,f12⟩:∃ b,a.tmps.getD 88 undef=.slice (some ⟨b,0,none⟩) n (n+1)∧g<b∧OwnGrid g w (.slice (some ⟨b,0,none⟩) n (n+1)) n A2 C1 V:=hI.val 12 88 (by decide) rfl (dp 12 (by decide))
   exact wVa (v:=.slice (some ⟨b12,0,none⟩) n (n+1)) (w':=w) ho e4 (by simp[execOp,e3,ev,evc,V12]) (by rw[e2];exact go rfl (Below.refl _ _) hw (fun e=>ex0.2 (by simpa using e)) ⟨_,rfl,z12,f12⟩)
 ·intro l a w hall hI
  have all:∀ j,j<15→l j=true:=fun j hj=>hall j (by rw[hsz];exact hj)
  exact fin a w hI.size hI.defers hI.kept hI.world.1 (fun i d hi hD=>hI.val i d hi hD (all i hi))
theorem run_append_wherem {P:Program}(w:World)(base:Nat)(t ty e:TypeId)(i:TypeInfo)(z:Value)(bytes:Nat)(ht:P.underlying t=some (.slice e))(hi:P.info? e=some i)(hz:i.zero=some z)
  (hsize:i.size=1) (hby:i.bytes=bytes) (hzs:z.cells.size=1) (v:Value) (n:Nat) (xs:List Value) (hown:w.ownsRow base e 1 v n xs)
  (ad:Addr) (m c:Nat) (news:List Value) (hl:news.length=m) (hnews:∀ j u,news[j]? = some u→w.cell? (ad.add j)=some u) (h1:∀ u∈news,u.oneCell'=true)
  (h63:n+m≤maxLen) (hbytes:(n+m)*bytes≤140737488355328) (hbase:base≤w.heap.size) :
  ∃ v' w',(Builtin.append_ #[t,t] ty #[v,.slice (some ad) m c]).run P w=.ok v' w'∧w'.ownsRow base e 1 v' (n+m) (xs++news)∧w.grownBy w' v.ownBlock∧Stays w v v':=by
 have weak:∀ {w':World}{v':Value}{cs:List Value},w'.ownsRow w.heap.size e 1 v' (n+m) cs→w'.ownsRow base e 1 v' (n+m) cs∧Stays w v v':=by
  intro w' v' cs h
  refine⟨⟨h.1,?_⟩,.inr fun g hg=>(h.lt g hg).1⟩
  rcases h.2 with h2|⟨g,cap,cur,hv,hg,r⟩
  ·exact .inl h2
  ·exact .inr ⟨g,cap,cur,hv,by omega,r⟩
 rcases hown.2 with⟨rfl,rfl⟩|⟨g,cap,cur,rfl,hg,hh,hn,hm,hs,htake⟩
 ·obtain rfl:xs=[]:=List.eq_nil_of_length_eq_zero (by simpa using hown.1)
  obtain⟨v',w',hr,h2,h3,_⟩:=run_append_own (P:=P) w w.heap.size t ty e i z 1 bytes ht hi hz hsize hby hzs (by decide) (.slice none 0 0) 0 [] (World.ownsRow_nil w _ e 1) ad m c news (by omega) hnews h1 h63 hbytes (Nat.le_refl _)
  exact⟨v',w',hr,(weak h2).1,h3,(weak h2).2⟩
 ·by_cases hfit:n+m≤cap
  ·obtain⟨w',hr,h2,h3⟩:=run_append_fits (P:=P) w base t ty e i 1 ht hi hsize g n cap xs hown ad m c news (by omega) hnews h1 hfit
   exact⟨_,w',hr,h2,h3,.inl rfl⟩
  ·obtain⟨v',w',hr,h2,h3⟩:=run_append_arg_grows (P:=P) w t ty e i z 1 bytes ht hi hz hsize hby hzs (by decide) ⟨g,0,none⟩ n cap xs hown.1 (hown.cells rfl) ad m c news (by omega) hnews (by omega) h63 hbytes
   exact⟨v',w',hr,(weak h2).1,⟨h3.os,h3.tape,h3.output,h3.size,fun k hk _=>h3.block k hk (by simp)⟩,(weak h2).2⟩
theorem wpList_append_wherem {P:Program}{w:World}{ops:Array Oper}{rest:List Oper}{o:Oper}{a:Act}{Q:Exit→Act→World→Prop}(hgd:o.guard=none)(s x:Operand)(t:TypeId)
  (ho:o.op=.call { callee:=.builtin .append,args:=#[s,x],argTypes:=#[t,t] })
  (base:Nat) (e:TypeId) (i:TypeInfo) (z:Value) (bytes:Nat) (ht:P.underlying t=some (.slice e)) (hi:P.info? e=some i) (hz:i.zero=some z)
  (hsize:i.size=1) (hby:i.bytes=bytes) (hzs:z.cells.size=1) (v:Value) (n:Nat) (xs:List Value) (hs:a.eval s=v) (hown:w.ownsRow base e 1 v n xs)
  (ad:Addr) (m c:Nat) (news:List Value) (hx:a.eval x=.slice (some ad) m c) (hl:news.length=m) (hnews:∀ j u,news[j]? = some u→w.cell? (ad.add j)=some u) (h1:∀ u∈news,u.oneCell'=true)
  (h63:n+m≤maxLen) (hbytes:(n+m)*bytes≤140737488355328) (hbase:base≤w.heap.size)
  (h:∀ v' w',w'.ownsRow base e 1 v' (n+m) (xs++news)→w.grownBy w' v.ownBlock→Stays w v v'→wpList P ops Q rest (a.put o.dst v') w'):wpList P ops Q (o :: rest) a w :=
 wpList_plain hgd fun _ hK=>by
  obtain⟨v',w',hr,h2,h3,h4⟩:=run_append_wherem (P:=P) w base t o.type e i z bytes ht hi hz hsize hby hzs v n xs hown ad m c news hl hnews h1 h63 hbytes hbase
  unfold Oper.wp execOp
  simp only[ho,resolve,invoke,builtin,Sem.run_bind,Sem.run_pure,Result.andThen_ok,List.map_toArray,List.map_cons,List.map_nil,hs,hx,hr]
  exact hK _ _ (h v' w' h2 h3 h4)
theorem run_index31 (x:Addr)(n c k:Nat)(h:k<n)(w:World):(Instr.indexAt 31 (.slice (some x) n c) (.int .i64 (k:Int))).run Tryz.prog w=.ok (.pointer (some (x.add k))) w:=by
 have h1:(k:Int)<(n:Int):=by omega
 go_simp
theorem run_load34 {w:World}{p:Addr}{a:Option Addr}{n c:Nat}(h:w.cell? p=some (.slice a n c)):(Instr.loadAt 34 (.pointer (some p))).run Tryz.prog w=.ok (.slice a n c) w:=by go_simp
def sp8D (i:Nat):Option Nat:=match i with|0=>some 70|1=>some 71|2=>some 72|3=>some 73|4=>some 74|5=>some 75|6=>some 76|7=>some 77|8=>some 15|_=>none
theorem sp8D_inj:∀ i,i<9→∀ j,j<9→sp8D i=sp8D j→sp8D i≠none→i=j:=by decide
theorem sp8D_lt:∀ i,i<9→∀ d,sp8D i=some d→d<140:=by
 intro i hi d h
 have:∀ i,i<9→(sp8D i).all (fun d=>decide (d<140))=true:=by decide
 have:=this i hi
 rw[h] at this
 simpa using this
def sp8F (M:Md)(cb n pc k ln cc:Nat)(x:Addr)(ro:Option Addr)(wd:Int)(bb:Bool)(i:Nat)(q:Value)(w:World):Prop:=match i with
 | 0=>q=.slice (some x) n pc
 | 1=>q=.int .i64 (k:Int)
 | 2=>q=.pointer (some (x.add k))
 | 3=>q=.slice ro ln cc
 | 4=>q=.int .i64 (ln:Int)
 | 5=>q=.agg #[.int .i64 M.d,.int .i64 M.h,.int .i64 M.l,.int .i64 M.v,.int .i64 M.u,.int .i64 M.x,.int .i64 M.t,.int .i64 M.n]
 | 6=>q=.int .i64 wd
 | 7=>q=.bool bb
 | 8=>q=.bool bb
 | _=>True
theorem sp8F_below {M:Md}{cb n pc k ln cc:Nat}{x:Addr}{ro:Option Addr}{wd:Int}{bb:Bool}{i:Nat}{q:Value}{w w':World}(h:sp8F M cb n pc k ln cc x ro wd bb i q w)(hb:Below w.heap.size w w'):sp8F M cb n pc k ln cc x ro wd bb i q w':=by
 unfold sp8F at h ⊢
 split
 ·exact h
 ·exact h
 ·exact h
 ·exact h
 ·exact h
 ·exact h
 ·exact h
 ·exact h
 ·exact h
 ·trivial
theorem sp8_region {id:Nat}{ops:Array Oper}{Q:Exit→Act→World→Prop}{a0:Act}{w0:World}(M:Md)(cb n pc k ln cc:Nat)(x:Addr)(ro:Option Addr)(wd:Int)(bb:Bool)(S:World→Prop)(hlow:lowB ops=true)(hsz:ops.size=9)
  (o0:OpIn ops 0 (some 70) (.move (.tmp 2)) none []) (o1:OpIn ops 1 (some 71) (.move (.tmp 16)) none []) (o2:OpIn ops 2 (some 72) (.indexAddr 31 (.tmp 70) (.tmp 71)) none [0,1]) (o3:OpIn ops 3 (some 73) (.load 34 (.tmp 72)) none [2]) (o4:OpIn ops 4 (some 74) (.call { callee:=.builtin .len,args:=#[.tmp 73],argTypes:=#[34] }) none [3]) (o5:OpIn ops 5 (some 75) (.load 23 (.tmp 14)) none []) (o6:OpIn ops 6 (some 76) (.call { callee:=.value (.func 16),args:=#[.tmp 75],argTypes:=#[23] }) none [5]) (o7:OpIn ops 7 (some 77) (.binOp .eql 3 (.tmp 74) (.tmp 76) 3) none [4,6]) (o8:OpIn ops 8 (some 15) (.assign (.tmp 77)) none [7])
  (hS:S w0.drew)
  (x2:∀ w,(Instr.indexAt 31 (.slice (some x) n pc) (.int .i64 (k:Int))).run Tryz.prog w=.ok (.pointer (some (x.add k))) w)
  (x3:∀ w,S w→(Instr.loadAt 34 (.pointer (some (x.add k)))).run Tryz.prog w=.ok (.slice ro ln cc) w)
  (x5:∀ w,S w→(Instr.loadAt 23 (.pointer (some ⟨cb,0,none⟩))).run Tryz.prog w=.ok (.agg #[.int .i64 M.d,.int .i64 M.h,.int .i64 M.l,.int .i64 M.v,.int .i64 M.u,.int .i64 M.x,.int .i64 M.t,.int .i64 M.n]) w)
  (x6:∀ w,S w→Calls Tryz.prog 16 #[.agg #[.int .i64 M.d,.int .i64 M.h,.int .i64 M.l,.int .i64 M.v,.int .i64 M.u,.int .i64 M.x,.int .i64 M.t,.int .i64 M.n]] w fun e w'=>e=.returned (.int .i64 wd)∧Below w.heap.size w w'∧S w')
  (x7:∀ w,(binOp .eql 3 (.int .i64 (ln:Int)) (.int .i64 wd)).run Tryz.prog w=.ok (.bool bb) w)
  (u2:a0.tmps.getD 2 undef=.slice (some x) n pc)
  (u14:a0.tmps.getD 14 undef=.pointer (some ⟨cb,0,none⟩))
  (u16:a0.tmps.getD 16 undef=.int .i64 (k:Int))
  (hs:140≤a0.tmps.size)
  (fin:∀ a w,a.tmps.size=a0.tmps.size→a.defers=a0.defers→(∀ s,(∀ i,i<9→sp8D i≠some s)→a.tmps.getD s undef=a0.tmps.getD s undef)→S w→(∀ i d,i<9→sp8D i=some d→sp8F M cb n pc k ln cc x ro wd bb i (a.tmps.getD d undef) w)→Q .normal a w):(Code.region id ops true).wp Tryz.prog Q a0 w0:=by
 have r16:∀ args w,(callFunc 16 args).run Tryz.prog w=.ok (.enter 16 args) w:=eNo Tryz.func16 (by kernel_rfl) rfl
 refine wRi (by kernel_rfl) hlow (Inv 9 sp8D a0 (fun l a w=>S w∧Kept2 9 sp8D a0 l a) (fun _=>sp8F M cb n pc k ln cc x ro wd bb)) (Inv.start ⟨hS,kept2_start _ _ _⟩) ?_ ?_
 ·intro l i o a w ho hl hcl hdep hI
  have hi:i<9:=by rw[←hsz];exact (Array.getElem?_eq_some_iff.1 ho).1
  have ev:∀ (s:Nat),a.eval (.tmp s)=a.tmps.getD s undef:=fun _=>rfl
  have evf:∀ f,a.eval (.func f)=.func (.func f) #[] #[]:=fun _=>rfl
  have evc:∀ c:Value,a.eval (.const c)=c:=fun _=>rfl
  have inj:∀ d,sp8D i=some d→∀ j d',j<9→sp8D j=some d'→j≠i→d'≠d:=fun d hd j d' hj hd' hne e=>hne (sp8D_inj j hj i hi (by rw[hd',hd,e]) (by rw[hd'];simp))
  have kp:∀ s,(∀ i,i<9→sp8D i≠some s)→a.tmps.getD s undef=a0.tmps.getD s undef:=hI.kept
  have hw:S w:=hI.world.1
  have k2:=hI.world.2
  have ex0:=hI.world.2
  have go:∀ {d:Nat}{v:Value}{w':World},sp8D i=some d→Below w.heap.size w w'→S w'→sp8F M cb n pc k ln cc x ro wd bb i v w'→Inv 9 sp8D a0 (fun l a w=>S w∧Kept2 9 sp8D a0 l a) (fun _=>sp8F M cb n pc k ln cc x ro wd bb) (fun j=>l j || j==i) (a.put (some d) v) w':=by
   intro d v w' hD hb hS' hF
   exact hI.put hi hD (Nat.lt_of_lt_of_le (sp8D_lt i hi d hD) hs) (inj d hD) ⟨hS',k2.put hD (by rw[hI.size];exact Nat.lt_of_lt_of_le (sp8D_lt i hi d hD) hs) hi⟩ hF (fun j u _ _ _ hf=>sp8F_below hf hb)
  rcases (show i=0∨i=1∨i=2∨i=3∨i=4∨i=5∨i=6∨i=7∨i=8 by omega) with rfl|rfl|rfl|rfl|rfl|rfl|rfl|rfl|rfl
  ·obtain⟨o',e1,e2,e3,e4,e5⟩:=o0
   obtain rfl:=sOp ho e1
   have dp:=dPo e5 hdep
   have U2:a.tmps.getD 2 undef=.slice (some x) n pc:=(kp 2 (by decide)).trans u2
   exact wVa (v:=.slice (some x) n pc) (w':=w) ho e4 (by simp[execOp,e3,ev,evc,U2]) (by rw[e2];exact go rfl (Below.refl _ _) hw rfl)
  ·obtain⟨o',e1,e2,e3,e4,e5⟩:=o1
   obtain rfl:=sOp ho e1
   have dp:=dPo e5 hdep
   have U16:a.tmps.getD 16 undef=.int .i64 (k:Int):=(kp 16 (by decide)).trans u16
   exact wVa (v:=.int .i64 (k:Int)) (w':=w) ho e4 (by simp[execOp,e3,ev,evc,U16]) (by rw[e2];exact go rfl (Below.refl _ _) hw rfl)
  ·obtain⟨o',e1,e2,e3,e4,e5⟩:=o2
   obtain rfl:=sOp ho e1
   have dp:=dPo e5 hdep
   have V0:a.tmps.getD 70 undef=.slice (some x) n pc:=hI.val 0 70 (by decide) rfl (dp 0 (by decide))
   have V1:a.tmps.getD 71 undef=.int .i64 (k:Int):=hI.val 1 71 (by decide) rfl (dp 1 (by decide))
   exact wVa (v:=.pointer (some (x.add k))) (w':=w) ho e4 (by simp[execOp,e3,ev,evc,V0,V1,x2 w]) (by rw[e2];exact go rfl (Below.refl _ _) hw rfl)
  ·obtain⟨o',e1,e2,e3,e4,e5⟩:=o3
   obtain rfl:=sOp ho e1
   have dp:=dPo e5 hdep
   have V2:a.tmps.getD 72 undef=.pointer (some (x.add k)):=hI.val 2 72 (by decide) rfl (dp 2 (by decide))
   exact wVa (v:=.slice ro ln cc) (w':=w) ho e4 (by simp[execOp,e3,ev,evc,V2,x3 w hw]) (by rw[e2];exact go rfl (Below.refl _ _) hw rfl)
  ·obtain⟨o',e1,e2,e3,e4,e5⟩:=o4
   obtain rfl:=sOp ho e1
   have dp:=dPo e5 hdep
   have V3:a.tmps.getD 73 undef=.slice ro ln cc:=hI.val 3 73 (by decide) rfl (dp 3 (by decide))
   exact wVa (v:=.int .i64 (ln:Int)) (w':=w) ho e4 (by simp[execOp,e3,ev,evc,V3,builtin,resolve,invoke,goInt,Builtin.len_,run_underlying Tryz.underlying34]) (by rw[e2];exact go rfl (Below.refl _ _) hw rfl)
  ·obtain⟨o',e1,e2,e3,e4,e5⟩:=o5
   obtain rfl:=sOp ho e1
   have dp:=dPo e5 hdep
   have U14:a.tmps.getD 14 undef=.pointer (some ⟨cb,0,none⟩):=(kp 14 (by decide)).trans u14
   exact wVa (v:=.agg #[.int .i64 M.d,.int .i64 M.h,.int .i64 M.l,.int .i64 M.v,.int .i64 M.u,.int .i64 M.x,.int .i64 M.t,.int .i64 M.n]) (w':=w) ho e4 (by simp[execOp,e3,ev,evc,U14,x5 w hw]) (by rw[e2];exact go rfl (Below.refl _ _) hw rfl)
  ·obtain⟨o',e1,e2,e3,e4,e5⟩:=o6
   obtain rfl:=sOp ho e1
   have dp:=dPo e5 hdep
   have V5:a.tmps.getD 75 undef=.agg #[.int .i64 M.d,.int .i64 M.h,.int .i64 M.l,.int .i64 M.v,.int .i64 M.u,.int .i64 M.x,.int .i64 M.t,.int .i64 M.n]:=hI.val 5 75 (by decide) rfl (dp 5 (by decide))
   refine wCa (f:=16) (args:=#[.agg #[.int .i64 M.d,.int .i64 M.h,.int .i64 M.l,.int .i64 M.v,.int .i64 M.u,.int .i64 M.x,.int .i64 M.t,.int .i64 M.n]]) ho e4 (by simp[execOp,e3,resolve,invoke,Deferred.ofValue,r16,ev,evf,evc,V5]) ((x6 w hw).mono ?_)
   rintro e W' ⟨rfl,hb6,hs6⟩
   refine⟨_,rfl,?_⟩
   rw[e2]
   exact go rfl hb6 hs6 rfl
  ·obtain⟨o',e1,e2,e3,e4,e5⟩:=o7
   obtain rfl:=sOp ho e1
   have dp:=dPo e5 hdep
   have V4:a.tmps.getD 74 undef=.int .i64 (ln:Int):=hI.val 4 74 (by decide) rfl (dp 4 (by decide))
   have V6:a.tmps.getD 76 undef=.int .i64 wd:=hI.val 6 76 (by decide) rfl (dp 6 (by decide))
   exact wVa (v:=.bool bb) (w':=w) ho e4 (by simp[execOp,e3,ev,evc,V4,V6,x7 w,eqGuard]) (by rw[e2];exact go rfl (Below.refl _ _) hw rfl)
  ·obtain⟨o',e1,e2,e3,e4,e5⟩:=o8
   obtain rfl:=sOp ho e1
   have dp:=dPo e5 hdep
   have V7:a.tmps.getD 77 undef=.bool bb:=hI.val 7 77 (by decide) rfl (dp 7 (by decide))
   exact wVa (v:=.bool bb) (w':=w) ho e4 (by simp[execOp,e3,ev,evc,V7]) (by rw[e2];exact go rfl (Below.refl _ _) hw rfl)
 ·intro l a w hall hI
  have all:∀ j,j<9→l j=true:=fun j hj=>hall j (by rw[hsz];exact hj)
  exact fin a w hI.size hI.defers hI.kept hI.world.1 (fun i d hi hD=>hI.val i d hi hD (all i hi))
end Go.Proofs.YthliomlmhfjhnaaGreat
