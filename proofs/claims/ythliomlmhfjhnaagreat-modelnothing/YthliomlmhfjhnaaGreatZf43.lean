/- Texts put together. -/
import Derived.Test.YthliomlmhfjhnaaGreatRows
import Derived.Test.YthliomlmhfjhnaaGreatZf38
namespace Go.Proofs.YthliomlmhfjhnaaGreat
set_option maxRecDepth 20000
set_option maxHeartbeats 16000000
open Go.ChangeShapes Go.WideShapes Go.ChangeAt Go.RowKit
set_option linter.unusedVariables false
set_option linter.unusedSimpArgs false
section
def sz14D (i:Nat):Option Nat:=match i with|0=>some 73|1=>some 74|2=>some 75|3=>some 76|4=>some 77|5=>some 78|6=>some 79|7=>some 80|8=>some 81|9=>some 82|10=>some 83|11=>some 84|12=>some 85|13=>some 86|14=>some 87|15=>some 88|16=>some 89|17=>some 90|18=>some 91|19=>some 92|_=>none
theorem sz14D_inj:∀ i,i<20→∀ j,j<20→sz14D i=sz14D j→sz14D i≠none→i=j:=by decide
theorem sz14D_lt:∀ i,i<20→∀ d,sz14D i=some d→d<120:=by
 intro i hi d h
 have:∀ i,i<20→(sz14D i).all (fun d=>decide (d<120))=true:=by decide
 have:=this i hi
 rw[h] at this
 simpa using this
def sz14F (M:Md)(kb k nn gc oc la lo cr co:Nat)(gx ox:Addr)(ra oa:Option Addr)(i:Nat)(q:Value)(w:World):Prop:=match i with
 | 0=>q=.slice (some gx) nn gc
 | 1=>q=.int .i64 (k:Int)
 | 2=>q=.pointer (some (gx.add k))
 | 3=>q=.slice ra la cr
 | 4=>q=.int .i64 (la:Int)
 | 5=>q=.pointer (some ⟨kb,0,none⟩)
 | 6=>q=.agg #[.int .i64 M.d,.int .i64 M.h,.int .i64 M.l,.int .i64 M.v,.int .i64 M.u,.int .i64 M.x,.int .i64 M.t,.int .i64 M.n]
 | 7=>q=.int .i64 (la:Int)
 | 8=>q=.bool false
 | 9=>q=.bool false
 | 10=>q=.slice (some ox) nn oc
 | 11=>q=.int .i64 (k:Int)
 | 12=>q=.pointer (some (ox.add k))
 | 13=>q=.slice oa lo co
 | 14=>q=.int .i64 (lo:Int)
 | 15=>q=.pointer (some ⟨kb,0,none⟩)
 | 16=>q=.pointer (some ⟨kb,0,none⟩)
 | 17=>q=.int .i64 (lo:Int)
 | 18=>q=.bool false
 | 19=>q=.bool false
 | _=>True
theorem sz14F_below {M:Md}{kb k nn gc oc la lo cr co:Nat}{gx ox:Addr}{ra oa:Option Addr}{i:Nat}{q:Value}{w w':World}(h:sz14F M kb k nn gc oc la lo cr co gx ox ra oa i q w)(hb:Below w.heap.size w w'):sz14F M kb k nn gc oc la lo cr co gx ox ra oa i q w':=by
 unfold sz14F at h ⊢
 split
 ·exact h
 ·exact h
 ·exact h
 ·exact h
 ·exact h
 ·exact h
 ·exact h
 ·exact h
 ·exact h
 ·exact h
 ·exact h
 ·exact h
 ·exact h
 ·exact h
 ·exact h
 ·exact h
 ·exact h
 ·exact h
 ·exact h
 ·exact h
 ·trivial
theorem sz14_region {id:Nat}{ops:Array Oper}{Q:Exit→Act→World→Prop}{a0:Act}{w0:World}(M:Md)(kb k nn gc oc la lo cr co:Nat)(gx ox:Addr)(ra oa:Option Addr)(S:World→Prop)(hlow:lowB ops=true)(hsz:ops.size=20)
  (o0:OpIn ops 0 (some 73) (.move (.tmp 5)) none []) (o1:OpIn ops 1 (some 74) (.move (.tmp 8)) none []) (o2:OpIn ops 2 (some 75) (.indexAddr 31 (.tmp 73) (.tmp 74)) none [0,1]) (o3:OpIn ops 3 (some 76) (.load 34 (.tmp 75)) none [2]) (o4:OpIn ops 4 (some 77) (.call { callee:=.builtin .len,args:=#[.tmp 76],argTypes:=#[34] }) none [3]) (o5:OpIn ops 5 (some 78) (.fieldAddr 47 (.tmp 1) 0) none []) (o6:OpIn ops 6 (some 79) (.load 23 (.tmp 78)) none [5]) (o7:OpIn ops 7 (some 80) (.call { callee:=.value (.func 15),args:=#[.tmp 79],argTypes:=#[23] }) none [6]) (o8:OpIn ops 8 (some 81) (.binOp .neq 3 (.tmp 77) (.tmp 80) 3) none [4,7]) (o9:OpIn ops 9 (some 82) (.move (.tmp 81)) none [8]) (o10:OpIn ops 10 (some 83) (.move (.tmp 6)) (some (9,false)) [9]) (o11:OpIn ops 11 (some 84) (.move (.tmp 8)) (some (9,false)) [9]) (o12:OpIn ops 12 (some 85) (.indexAddr 31 (.tmp 83) (.tmp 84)) (some (9,false)) [9,10,11]) (o13:OpIn ops 13 (some 86) (.load 34 (.tmp 85)) (some (9,false)) [9,12]) (o14:OpIn ops 14 (some 87) (.call { callee:=.builtin .len,args:=#[.tmp 86],argTypes:=#[34] }) (some (9,false)) [9,13]) (o15:OpIn ops 15 (some 88) (.fieldAddr 47 (.tmp 1) 0) (some (9,false)) [9]) (o16:OpIn ops 16 (some 89) (.fieldAddr 23 (.tmp 88) 0) (some (9,false)) [9,15]) (o17:OpIn ops 17 (some 90) (.load 3 (.tmp 89)) (some (9,false)) [9,16]) (o18:OpIn ops 18 (some 91) (.binOp .neq 3 (.tmp 87) (.tmp 90) 3) (some (9,false)) [9,14,17]) (o19:OpIn ops 19 (some 92) (.pick (.tmp 82) (.const (.bool true)) (.tmp 91)) none [9,18])
  (hS:S w0.drew)
  (x2:∀ w,(Instr.indexAt 31 (.slice (some gx) nn gc) (.int .i64 (k:Int))).run Tryz.prog w=.ok (.pointer (some (gx.add k))) w)
  (x3:∀ w,S w→(Instr.loadAt 34 (.pointer (some (gx.add k)))).run Tryz.prog w=.ok (.slice ra la cr) w)
  (x5:∀ w,(Instr.fieldAt 47 (.pointer (some ⟨kb,0,none⟩)) 0).run Tryz.prog w=.ok (.pointer (some ⟨kb,0,none⟩)) w)
  (x6:∀ w,S w→(Instr.loadAt 23 (.pointer (some ⟨kb,0,none⟩))).run Tryz.prog w=.ok (.agg #[.int .i64 M.d,.int .i64 M.h,.int .i64 M.l,.int .i64 M.v,.int .i64 M.u,.int .i64 M.x,.int .i64 M.t,.int .i64 M.n]) w)
  (x7:∀ w,S w→Calls Tryz.prog 15 #[.agg #[.int .i64 M.d,.int .i64 M.h,.int .i64 M.l,.int .i64 M.v,.int .i64 M.u,.int .i64 M.x,.int .i64 M.t,.int .i64 M.n]] w fun e w'=>e=.returned (.int .i64 (la:Int))∧Below w.heap.size w w'∧S w')
  (x8:∀ w,(binOp .neq 3 (.int .i64 (la:Int)) (.int .i64 (la:Int))).run Tryz.prog w=.ok (.bool false) w)
  (x12:∀ w,(Instr.indexAt 31 (.slice (some ox) nn oc) (.int .i64 (k:Int))).run Tryz.prog w=.ok (.pointer (some (ox.add k))) w)
  (x13:∀ w,S w→(Instr.loadAt 34 (.pointer (some (ox.add k)))).run Tryz.prog w=.ok (.slice oa lo co) w)
  (x15:∀ w,(Instr.fieldAt 47 (.pointer (some ⟨kb,0,none⟩)) 0).run Tryz.prog w=.ok (.pointer (some ⟨kb,0,none⟩)) w)
  (x16:∀ w,(Instr.fieldAt 23 (.pointer (some ⟨kb,0,none⟩)) 0).run Tryz.prog w=.ok (.pointer (some ⟨kb,0,none⟩)) w)
  (x17:∀ w,S w→(Instr.loadAt 3 (.pointer (some ⟨kb,0,none⟩))).run Tryz.prog w=.ok (.int .i64 (lo:Int)) w)
  (x18:∀ w,(binOp .neq 3 (.int .i64 (lo:Int)) (.int .i64 (lo:Int))).run Tryz.prog w=.ok (.bool false) w)
  (u1:a0.tmps.getD 1 undef=.pointer (some ⟨kb,0,none⟩))
  (u5:a0.tmps.getD 5 undef=.slice (some gx) nn gc)
  (u6:a0.tmps.getD 6 undef=.slice (some ox) nn oc)
  (u8:a0.tmps.getD 8 undef=.int .i64 (k:Int))
  (hs:120≤a0.tmps.size)
  (fin:∀ a w,a.tmps.size=a0.tmps.size→a.defers=a0.defers→(∀ s,(∀ i,i<20→sz14D i≠some s)→a.tmps.getD s undef=a0.tmps.getD s undef)→S w→(∀ i d,i<20→sz14D i=some d→sz14F M kb k nn gc oc la lo cr co gx ox ra oa i (a.tmps.getD d undef) w)→Q .normal a w):(Code.region id ops true).wp Tryz.prog Q a0 w0:=by
 have r15:∀ args w,(callFunc 15 args).run Tryz.prog w=.ok (.enter 15 args) w:=eNo Tryz.func15 (by kernel_rfl) rfl
 refine wp_region_inv2 (by kernel_rfl) hlow (Inv 20 sz14D a0 (fun l a w=>S w∧Kept2 20 sz14D a0 l a) (fun _=>sz14F M kb k nn gc oc la lo cr co gx ox ra oa)) (Inv.start ⟨hS,kept2_start _ _ _⟩) ?_ ?_
 ·intro l i o a w ho hl hcl hdep hI
  have hi:i<20:=by rw[←hsz];exact (Array.getElem?_eq_some_iff.1 ho).1
  have ev:∀ (s:Nat),a.eval (.tmp s)=a.tmps.getD s undef:=fun _=>rfl
  have evf:∀ f,a.eval (.func f)=.func (.func f) #[] #[]:=fun _=>rfl
  have evc:∀ c:Value,a.eval (.const c)=c:=fun _=>rfl
  have inj:∀ d,sz14D i=some d→∀ j d',j<20→sz14D j=some d'→j≠i→d'≠d:=fun d hd j d' hj hd' hne e=>hne (sz14D_inj j hj i hi (by rw[hd',hd,e]) (by rw[hd'];simp))
  have kp:∀ s,(∀ i,i<20→sz14D i≠some s)→a.tmps.getD s undef=a0.tmps.getD s undef:=hI.kept
  have hw:S w:=hI.world.1
  have k2:=hI.world.2
  have ex0:=hI.world.2
  have go:∀ {d:Nat}{v:Value}{w':World},sz14D i=some d→Below w.heap.size w w'→S w'→sz14F M kb k nn gc oc la lo cr co gx ox ra oa i v w'→Inv 20 sz14D a0 (fun l a w=>S w∧Kept2 20 sz14D a0 l a) (fun _=>sz14F M kb k nn gc oc la lo cr co gx ox ra oa) (fun j=>l j || j==i) (a.put (some d) v) w':=by
   intro d v w' hD hb hS' hF
   exact hI.put hi hD (Nat.lt_of_lt_of_le (sz14D_lt i hi d hD) hs) (inj d hD) ⟨hS',k2.put hD (by rw[hI.size];exact Nat.lt_of_lt_of_le (sz14D_lt i hi d hD) hs) hi⟩ hF (fun j u _ _ _ hf=>sz14F_below hf hb)
  rcases (show i=0∨i=1∨i=2∨i=3∨i=4∨i=5∨i=6∨i=7∨i=8∨i=9∨i=10∨i=11∨i=12∨i=13∨i=14∨i=15∨i=16∨i=17∨i=18∨i=19 by omega) with rfl|rfl|rfl|rfl|rfl|rfl|rfl|rfl|rfl|rfl|rfl|rfl|rfl|rfl|rfl|rfl|rfl|rfl|rfl|rfl
  ·obtain⟨o',e1,e2,e3,e4,e5⟩:=o0
   obtain rfl:=sOp ho e1
   have dp:=dPo e5 hdep
   have U5:a.tmps.getD 5 undef=.slice (some gx) nn gc:=(kp 5 (by decide)).trans u5
   exact wVa (v:=.slice (some gx) nn gc) (w':=w) ho e4 (by simp[execOp,e3,ev,evc,U5]) (by rw[e2];exact go rfl (Below.refl _ _) hw rfl)
  ·obtain⟨o',e1,e2,e3,e4,e5⟩:=o1
   obtain rfl:=sOp ho e1
   have dp:=dPo e5 hdep
   have U8:a.tmps.getD 8 undef=.int .i64 (k:Int):=(kp 8 (by decide)).trans u8
   exact wVa (v:=.int .i64 (k:Int)) (w':=w) ho e4 (by simp[execOp,e3,ev,evc,U8]) (by rw[e2];exact go rfl (Below.refl _ _) hw rfl)
  ·obtain⟨o',e1,e2,e3,e4,e5⟩:=o2
   obtain rfl:=sOp ho e1
   have dp:=dPo e5 hdep
   have V0:a.tmps.getD 73 undef=.slice (some gx) nn gc:=hI.val 0 73 (by decide) rfl (dp 0 (by decide))
   have V1:a.tmps.getD 74 undef=.int .i64 (k:Int):=hI.val 1 74 (by decide) rfl (dp 1 (by decide))
   exact wVa (v:=.pointer (some (gx.add k))) (w':=w) ho e4 (by simp[execOp,e3,ev,evc,V0,V1,x2 w]) (by rw[e2];exact go rfl (Below.refl _ _) hw rfl)
  ·obtain⟨o',e1,e2,e3,e4,e5⟩:=o3
   obtain rfl:=sOp ho e1
   have dp:=dPo e5 hdep
   have V2:a.tmps.getD 75 undef=.pointer (some (gx.add k)):=hI.val 2 75 (by decide) rfl (dp 2 (by decide))
   exact wVa (v:=.slice ra la cr) (w':=w) ho e4 (by simp[execOp,e3,ev,evc,V2,x3 w hw]) (by rw[e2];exact go rfl (Below.refl _ _) hw rfl)
  ·obtain⟨o',e1,e2,e3,e4,e5⟩:=o4
   obtain rfl:=sOp ho e1
   have dp:=dPo e5 hdep
   have V3:a.tmps.getD 76 undef=.slice ra la cr:=hI.val 3 76 (by decide) rfl (dp 3 (by decide))
   exact wVa (v:=.int .i64 (la:Int)) (w':=w) ho e4 (by simp[execOp,e3,ev,evc,V3,builtin,resolve,invoke,goInt,Builtin.len_,run_underlying Tryz.underlying34]) (by rw[e2];exact go rfl (Below.refl _ _) hw rfl)
  ·obtain⟨o',e1,e2,e3,e4,e5⟩:=o5
   obtain rfl:=sOp ho e1
   have dp:=dPo e5 hdep
   have U1:a.tmps.getD 1 undef=.pointer (some ⟨kb,0,none⟩):=(kp 1 (by decide)).trans u1
   exact wVa (v:=.pointer (some ⟨kb,0,none⟩)) (w':=w) ho e4 (by simp[execOp,e3,ev,evc,U1,x5 w]) (by rw[e2];exact go rfl (Below.refl _ _) hw rfl)
  ·obtain⟨o',e1,e2,e3,e4,e5⟩:=o6
   obtain rfl:=sOp ho e1
   have dp:=dPo e5 hdep
   have V5:a.tmps.getD 78 undef=.pointer (some ⟨kb,0,none⟩):=hI.val 5 78 (by decide) rfl (dp 5 (by decide))
   exact wVa (v:=.agg #[.int .i64 M.d,.int .i64 M.h,.int .i64 M.l,.int .i64 M.v,.int .i64 M.u,.int .i64 M.x,.int .i64 M.t,.int .i64 M.n]) (w':=w) ho e4 (by simp[execOp,e3,ev,evc,V5,x6 w hw]) (by rw[e2];exact go rfl (Below.refl _ _) hw rfl)
  ·obtain⟨o',e1,e2,e3,e4,e5⟩:=o7
   obtain rfl:=sOp ho e1
   have dp:=dPo e5 hdep
   have V6:a.tmps.getD 79 undef=.agg #[.int .i64 M.d,.int .i64 M.h,.int .i64 M.l,.int .i64 M.v,.int .i64 M.u,.int .i64 M.x,.int .i64 M.t,.int .i64 M.n]:=hI.val 6 79 (by decide) rfl (dp 6 (by decide))
   refine wCa (f:=15) (args:=#[.agg #[.int .i64 M.d,.int .i64 M.h,.int .i64 M.l,.int .i64 M.v,.int .i64 M.u,.int .i64 M.x,.int .i64 M.t,.int .i64 M.n]]) ho e4 (by simp[execOp,e3,resolve,invoke,Deferred.ofValue,r15,ev,evf,evc,V6]) ((x7 w hw).mono ?_)
   rintro e W' ⟨rfl,hb6,hs6⟩
   refine⟨_,rfl,?_⟩
   rw[e2]
   exact go rfl hb6 hs6 rfl
  ·obtain⟨o',e1,e2,e3,e4,e5⟩:=o8
   obtain rfl:=sOp ho e1
   have dp:=dPo e5 hdep
   have V4:a.tmps.getD 77 undef=.int .i64 (la:Int):=hI.val 4 77 (by decide) rfl (dp 4 (by decide))
   have V7:a.tmps.getD 80 undef=.int .i64 (la:Int):=hI.val 7 80 (by decide) rfl (dp 7 (by decide))
   exact wVa (v:=.bool false) (w':=w) ho e4 (by simp[execOp,e3,ev,evc,V4,V7,x8 w,eqGuard]) (by rw[e2];exact go rfl (Below.refl _ _) hw rfl)
  ·obtain⟨o',e1,e2,e3,e4,e5⟩:=o9
   obtain rfl:=sOp ho e1
   have dp:=dPo e5 hdep
   have V8:a.tmps.getD 81 undef=.bool false:=hI.val 8 81 (by decide) rfl (dp 8 (by decide))
   exact wVa (v:=.bool false) (w':=w) ho e4 (by simp[execOp,e3,ev,evc,V8]) (by rw[e2];exact go rfl (Below.refl _ _) hw rfl)
  ·obtain⟨o',e1,e2,e3,e4,e5⟩:=o10
   obtain rfl:=sOp ho e1
   have dp:=dPo e5 hdep
   have V9:a.tmps.getD 82 undef=.bool false:=hI.val 9 82 (by decide) rfl (dp 9 (by decide))
   have U6:a.tmps.getD 6 undef=.slice (some ox) nn oc:=(kp 6 (by decide)).trans u6
   obtain⟨og,g1,g2,-,-,-⟩:=o9
   exact wVb (v:=.slice (some ox) nn oc) (w':=w) ho e4 g1 g2 (by rw[hI.size];exact Nat.lt_of_lt_of_le (by decide) hs) V9 (by simp[execOp,e3,ev,evc,V9,U6]) (by rw[e2];exact go rfl (Below.refl _ _) hw rfl)
  ·obtain⟨o',e1,e2,e3,e4,e5⟩:=o11
   obtain rfl:=sOp ho e1
   have dp:=dPo e5 hdep
   have V9:a.tmps.getD 82 undef=.bool false:=hI.val 9 82 (by decide) rfl (dp 9 (by decide))
   have U8:a.tmps.getD 8 undef=.int .i64 (k:Int):=(kp 8 (by decide)).trans u8
   obtain⟨og,g1,g2,-,-,-⟩:=o9
   exact wVb (v:=.int .i64 (k:Int)) (w':=w) ho e4 g1 g2 (by rw[hI.size];exact Nat.lt_of_lt_of_le (by decide) hs) V9 (by simp[execOp,e3,ev,evc,V9,U8]) (by rw[e2];exact go rfl (Below.refl _ _) hw rfl)
  ·obtain⟨o',e1,e2,e3,e4,e5⟩:=o12
   obtain rfl:=sOp ho e1
   have dp:=dPo e5 hdep
   have V9:a.tmps.getD 82 undef=.bool false:=hI.val 9 82 (by decide) rfl (dp 9 (by decide))
   have V10:a.tmps.getD 83 undef=.slice (some ox) nn oc:=hI.val 10 83 (by decide) rfl (dp 10 (by decide))
   have V11:a.tmps.getD 84 undef=.int .i64 (k:Int):=hI.val 11 84 (by decide) rfl (dp 11 (by decide))
   obtain⟨og,g1,g2,-,-,-⟩:=o9
   exact wVb (v:=.pointer (some (ox.add k))) (w':=w) ho e4 g1 g2 (by rw[hI.size];exact Nat.lt_of_lt_of_le (by decide) hs) V9 (by simp[execOp,e3,ev,evc,V9,V10,V11,x12 w]) (by rw[e2];exact go rfl (Below.refl _ _) hw rfl)
  ·obtain⟨o',e1,e2,e3,e4,e5⟩:=o13
   obtain rfl:=sOp ho e1
   have dp:=dPo e5 hdep
   have V9:a.tmps.getD 82 undef=.bool false:=hI.val 9 82 (by decide) rfl (dp 9 (by decide))
   have V12:a.tmps.getD 85 undef=.pointer (some (ox.add k)):=hI.val 12 85 (by decide) rfl (dp 12 (by decide))
   obtain⟨og,g1,g2,-,-,-⟩:=o9
   exact wVb (v:=.slice oa lo co) (w':=w) ho e4 g1 g2 (by rw[hI.size];exact Nat.lt_of_lt_of_le (by decide) hs) V9 (by simp[execOp,e3,ev,evc,V9,V12,x13 w hw]) (by rw[e2];exact go rfl (Below.refl _ _) hw rfl)
  ·obtain⟨o',e1,e2,e3,e4,e5⟩:=o14
   obtain rfl:=sOp ho e1
   have dp:=dPo e5 hdep
   have V9:a.tmps.getD 82 undef=.bool false:=hI.val 9 82 (by decide) rfl (dp 9 (by decide))
   have V13:a.tmps.getD 86 undef=.slice oa lo co:=hI.val 13 86 (by decide) rfl (dp 13 (by decide))
   obtain⟨og,g1,g2,-,-,-⟩:=o9
   exact wVb (v:=.int .i64 (lo:Int)) (w':=w) ho e4 g1 g2 (by rw[hI.size];exact Nat.lt_of_lt_of_le (by decide) hs) V9 (by simp[execOp,e3,ev,evc,V9,V13,builtin,resolve,invoke,goInt,Builtin.len_,run_underlying Tryz.underlying34]) (by rw[e2];exact go rfl (Below.refl _ _) hw rfl)
  ·obtain⟨o',e1,e2,e3,e4,e5⟩:=o15
   obtain rfl:=sOp ho e1
   have dp:=dPo e5 hdep
   have V9:a.tmps.getD 82 undef=.bool false:=hI.val 9 82 (by decide) rfl (dp 9 (by decide))
   have U1:a.tmps.getD 1 undef=.pointer (some ⟨kb,0,none⟩):=(kp 1 (by decide)).trans u1
   obtain⟨og,g1,g2,-,-,-⟩:=o9
   exact wVb (v:=.pointer (some ⟨kb,0,none⟩)) (w':=w) ho e4 g1 g2 (by rw[hI.size];exact Nat.lt_of_lt_of_le (by decide) hs) V9 (by simp[execOp,e3,ev,evc,V9,U1,x15 w]) (by rw[e2];exact go rfl (Below.refl _ _) hw rfl)
  ·obtain⟨o',e1,e2,e3,e4,e5⟩:=o16
   obtain rfl:=sOp ho e1
   have dp:=dPo e5 hdep
   have V9:a.tmps.getD 82 undef=.bool false:=hI.val 9 82 (by decide) rfl (dp 9 (by decide))
   have V15:a.tmps.getD 88 undef=.pointer (some ⟨kb,0,none⟩):=hI.val 15 88 (by decide) rfl (dp 15 (by decide))
   obtain⟨og,g1,g2,-,-,-⟩:=o9
   exact wVb (v:=.pointer (some ⟨kb,0,none⟩)) (w':=w) ho e4 g1 g2 (by rw[hI.size];exact Nat.lt_of_lt_of_le (by decide) hs) V9 (by simp[execOp,e3,ev,evc,V9,V15,x16 w]) (by rw[e2];exact go rfl (Below.refl _ _) hw rfl)
  ·obtain⟨o',e1,e2,e3,e4,e5⟩:=o17
   obtain rfl:=sOp ho e1
   have dp:=dPo e5 hdep
   have V9:a.tmps.getD 82 undef=.bool false:=hI.val 9 82 (by decide) rfl (dp 9 (by decide))
   have V16:a.tmps.getD 89 undef=.pointer (some ⟨kb,0,none⟩):=hI.val 16 89 (by decide) rfl (dp 16 (by decide))
   obtain⟨og,g1,g2,-,-,-⟩:=o9
   exact wVb (v:=.int .i64 (lo:Int)) (w':=w) ho e4 g1 g2 (by rw[hI.size];exact Nat.lt_of_lt_of_le (by decide) hs) V9 (by simp[execOp,e3,ev,evc,V9,V16,x17 w hw]) (by rw[e2];exact go rfl (Below.refl _ _) hw rfl)
  ·obtain⟨o',e1,e2,e3,e4,e5⟩:=o18
   obtain rfl:=sOp ho e1
   have dp:=dPo e5 hdep
   have V9:a.tmps.getD 82 undef=.bool false:=hI.val 9 82 (by decide) rfl (dp 9 (by decide))
   have V14:a.tmps.getD 87 undef=.int .i64 (lo:Int):=hI.val 14 87 (by decide) rfl (dp 14 (by decide))
   have V17:a.tmps.getD 90 undef=.int .i64 (lo:Int):=hI.val 17 90 (by decide) rfl (dp 17 (by decide))
   obtain⟨og,g1,g2,-,-,-⟩:=o9
   exact wVb (v:=.bool false) (w':=w) ho e4 g1 g2 (by rw[hI.size];exact Nat.lt_of_lt_of_le (by decide) hs) V9 (by simp[execOp,e3,ev,evc,V9,V14,V17,x18 w,eqGuard]) (by rw[e2];exact go rfl (Below.refl _ _) hw rfl)
  ·obtain⟨o',e1,e2,e3,e4,e5⟩:=o19
   obtain rfl:=sOp ho e1
   have dp:=dPo e5 hdep
   have V9:a.tmps.getD 82 undef=.bool false:=hI.val 9 82 (by decide) rfl (dp 9 (by decide))
   have V18:a.tmps.getD 91 undef=.bool false:=hI.val 18 91 (by decide) rfl (dp 18 (by decide))
   exact wVa (v:=.bool false) (w':=w) ho e4 (by simp[execOp,e3,ev,evc,V9,V18,asBool]) (by rw[e2];exact go rfl (Below.refl _ _) hw rfl)
 ·intro l a w hall hI
  have all:∀ j,j<20→l j=true:=fun j hj=>hall j (by rw[hsz];exact hj)
  exact fin a w hI.size hI.defers hI.kept hI.world.1 (fun i d hi hD=>hI.val i d hi hD (all i hi))
end
end Go.Proofs.YthliomlmhfjhnaaGreat
