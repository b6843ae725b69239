/- Texts put together. -/
import Derived.Test.YthliomlmhfjhnaaGreatRows
import Derived.Test.YthliomlmhfjhnaaGreatZf38
namespace Go.Proofs.YthliomlmhfjhnaaGreat
set_option maxRecDepth 20000
set_option maxHeartbeats 16000000
open Go.ChangeShapes Go.WideShapes Go.ChangeAt Go.RowKit
set_option linter.unusedVariables false
set_option linter.unusedSimpArgs false
section
def wi15D (i:Nat):Option Nat:=match i with|0=>some 113|1=>some 114|2=>some 115|3=>some 116|4=>some 117|5=>some 118|6=>some 119|7=>some 120|8=>some 121|9=>some 122|10=>some 123|11=>some 124|12=>some 125|13=>some 126|14=>some 127|15=>some 128|16=>some 129|17=>some 130|18=>some 131|19=>some 132|20=>some 133|21=>some 134|22=>some 135|23=>some 136|24=>some 137|25=>some 138|26=>some 139|27=>some 140|28=>some 4|_=>none
theorem wi15D_inj:∀ i,i<29→∀ j,j<29→wi15D i=wi15D j→wi15D i≠none→i=j:=by decide
theorem wi15D_lt:∀ i,i<29→∀ d,wi15D i=some d→d<141:=by
 intro i hi d h
 have:∀ i,i<29→(wi15D i).all (fun d=>decide (d<141))=true:=by decide
 have:=this i hi
 rw[h] at this
 simpa using this
def wi15F (kb tn tc xc yc la cx cy:Nat)(gx gy:Addr)(ta xa ya:Option Addr)(lz:Int)(i:Nat)(q:Value)(w:World):Prop:=match i with
 | 0=>q=.slice (some gx) tn xc
 | 1=>q=.int .i64 (tn:Int)
 | 2=>q=.pointer (some ⟨kb,10,none⟩)
 | 3=>q=.slice ta tn tc
 | 4=>q=.int .i64 (tn:Int)
 | 5=>q=.bool true
 | 6=>q=.bool true
 | 7=>q=.slice (some gy) tn yc
 | 8=>q=.int .i64 (tn:Int)
 | 9=>q=.slice (some gx) tn xc
 | 10=>q=.int .i64 (tn:Int)
 | 11=>q=.bool true
 | 12=>q=.bool true
 | 13=>q=.bool true
 | 14=>q=.slice (some gx) tn xc
 | 15=>q=.slice (some gx) tn xc
 | 16=>q=.int .i64 (tn:Int)
 | 17=>q=.int .i64 lz
 | 18=>q=.pointer (some (gx.add (tn-1)))
 | 19=>q=.slice xa la cx
 | 20=>q=.slice (some gy) tn yc
 | 21=>q=.slice (some gy) tn yc
 | 22=>q=.int .i64 (tn:Int)
 | 23=>q=.int .i64 lz
 | 24=>q=.pointer (some (gy.add (tn-1)))
 | 25=>q=.slice ya la cy
 | 26=>q=.bool true
 | 27=>q=.bool true
 | 28=>q=.bool true
 | _=>True
theorem wi15F_below {kb tn tc xc yc la cx cy:Nat}{gx gy:Addr}{ta xa ya:Option Addr}{lz:Int}{i:Nat}{q:Value}{w w':World}(h:wi15F kb tn tc xc yc la cx cy gx gy ta xa ya lz i q w)(hb:Below w.heap.size w w'):wi15F kb tn tc xc yc la cx cy gx gy ta xa ya lz i q w':=by
 unfold wi15F at h ⊢
 split
 ·exact h
 ·exact h
 ·exact h
 ·exact h
 ·exact h
 ·exact h
 ·exact h
 ·exact h
 ·exact h
 ·exact h
 ·exact h
 ·exact h
 ·exact h
 ·exact h
 ·exact h
 ·exact h
 ·exact h
 ·exact h
 ·exact h
 ·exact h
 ·exact h
 ·exact h
 ·exact h
 ·exact h
 ·exact h
 ·exact h
 ·exact h
 ·exact h
 ·exact h
 ·trivial
theorem wi15_region {id:Nat}{ops:Array Oper}{Q:Exit→Act→World→Prop}{a0:Act}{w0:World}(kb tn tc xc yc la cx cy:Nat)(gx gy:Addr)(ta xa ya:Option Addr)(lz:Int)(S:World→Prop)(hlow:lowB ops=true)(hsz:ops.size=29)
  (o0:OpIn ops 0 (some 113) (.move (.tmp 11)) none []) (o1:OpIn ops 1 (some 114) (.call { callee:=.builtin .len,args:=#[.tmp 113],argTypes:=#[31] }) none [0]) (o2:OpIn ops 2 (some 115) (.fieldAddr 47 (.tmp 2) 3) none []) (o3:OpIn ops 3 (some 116) (.load 45 (.tmp 115)) none [2]) (o4:OpIn ops 4 (some 117) (.call { callee:=.builtin .len,args:=#[.tmp 116],argTypes:=#[45] }) none [3]) (o5:OpIn ops 5 (some 118) (.binOp .eql 3 (.tmp 114) (.tmp 117) 3) none [1,4]) (o6:OpIn ops 6 (some 119) (.move (.tmp 118)) none [5]) (o7:OpIn ops 7 (some 120) (.move (.tmp 14)) (some (6,true)) [6]) (o8:OpIn ops 8 (some 121) (.call { callee:=.builtin .len,args:=#[.tmp 120],argTypes:=#[31] }) (some (6,true)) [6,7]) (o9:OpIn ops 9 (some 122) (.move (.tmp 11)) (some (6,true)) [6]) (o10:OpIn ops 10 (some 123) (.call { callee:=.builtin .len,args:=#[.tmp 122],argTypes:=#[31] }) (some (6,true)) [6,9]) (o11:OpIn ops 11 (some 124) (.binOp .eql 3 (.tmp 121) (.tmp 123) 3) (some (6,true)) [6,8,10]) (o12:OpIn ops 12 (some 125) (.pick (.tmp 119) (.tmp 124) (.const (.bool false))) none [6,11]) (o13:OpIn ops 13 (some 126) (.move (.tmp 125)) none [12]) (o14:OpIn ops 14 (some 127) (.move (.tmp 11)) (some (13,true)) [13]) (o15:OpIn ops 15 (some 128) (.move (.tmp 11)) (some (13,true)) [13]) (o16:OpIn ops 16 (some 129) (.call { callee:=.builtin .len,args:=#[.tmp 128],argTypes:=#[31] }) (some (13,true)) [13,15]) (o17:OpIn ops 17 (some 130) (.binOp .sub 3 (.tmp 129) (.const (.int .i64 1)) 3) (some (13,true)) [13,16]) (o18:OpIn ops 18 (some 131) (.indexAddr 31 (.tmp 127) (.tmp 130)) (some (13,true)) [13,14,17]) (o19:OpIn ops 19 (some 132) (.load 34 (.tmp 131)) (some (13,true)) [13,18]) (o20:OpIn ops 20 (some 133) (.move (.tmp 14)) (some (13,true)) [13]) (o21:OpIn ops 21 (some 134) (.move (.tmp 14)) (some (13,true)) [13]) (o22:OpIn ops 22 (some 135) (.call { callee:=.builtin .len,args:=#[.tmp 134],argTypes:=#[31] }) (some (13,true)) [13,21]) (o23:OpIn ops 23 (some 136) (.binOp .sub 3 (.tmp 135) (.const (.int .i64 1)) 3) (some (13,true)) [13,22]) (o24:OpIn ops 24 (some 137) (.indexAddr 31 (.tmp 133) (.tmp 136)) (some (13,true)) [13,20,23]) (o25:OpIn ops 25 (some 138) (.load 34 (.tmp 137)) (some (13,true)) [13,24]) (o26:OpIn ops 26 (some 139) (.call { callee:=.value (.func 14),args:=#[.tmp 132,.tmp 138],argTypes:=#[34,34] }) (some (13,true)) [13,19,25]) (o27:OpIn ops 27 (some 140) (.pick (.tmp 126) (.tmp 139) (.const (.bool false))) none [13,26]) (o28:OpIn ops 28 (some 4) (.assign (.tmp 140)) none [27])
  (hS:S w0.drew)
  (x2:∀ w,(Instr.fieldAt 47 (.pointer (some ⟨kb,0,none⟩)) 3).run Tryz.prog w=.ok (.pointer (some ⟨kb,10,none⟩)) w)
  (x3:∀ w,S w→(Instr.loadAt 45 (.pointer (some ⟨kb,10,none⟩))).run Tryz.prog w=.ok (.slice ta tn tc) w)
  (x5:∀ w,(binOp .eql 3 (.int .i64 (tn:Int)) (.int .i64 (tn:Int))).run Tryz.prog w=.ok (.bool true) w)
  (x11:∀ w,(binOp .eql 3 (.int .i64 (tn:Int)) (.int .i64 (tn:Int))).run Tryz.prog w=.ok (.bool true) w)
  (x17:∀ w,(binOp .sub 3 (.int .i64 (tn:Int)) (.int .i64 1)).run Tryz.prog w=.ok (.int .i64 lz) w)
  (x18:∀ w,(Instr.indexAt 31 (.slice (some gx) tn xc) (.int .i64 lz)).run Tryz.prog w=.ok (.pointer (some (gx.add (tn-1)))) w)
  (x19:∀ w,S w→(Instr.loadAt 34 (.pointer (some (gx.add (tn-1))))).run Tryz.prog w=.ok (.slice xa la cx) w)
  (x23:∀ w,(binOp .sub 3 (.int .i64 (tn:Int)) (.int .i64 1)).run Tryz.prog w=.ok (.int .i64 lz) w)
  (x24:∀ w,(Instr.indexAt 31 (.slice (some gy) tn yc) (.int .i64 lz)).run Tryz.prog w=.ok (.pointer (some (gy.add (tn-1)))) w)
  (x25:∀ w,S w→(Instr.loadAt 34 (.pointer (some (gy.add (tn-1))))).run Tryz.prog w=.ok (.slice ya la cy) w)
  (x26:∀ w,S w→Calls Tryz.prog 14 #[.slice xa la cx,.slice ya la cy] w fun e w'=>e=.returned (.bool true)∧Below w.heap.size w w'∧S w')
  (u2:a0.tmps.getD 2 undef=.pointer (some ⟨kb,0,none⟩))
  (u11:a0.tmps.getD 11 undef=.slice (some gx) tn xc)
  (u14:a0.tmps.getD 14 undef=.slice (some gy) tn yc)
  (hs:141≤a0.tmps.size)
  (fin:∀ a w,a.tmps.size=a0.tmps.size→a.defers=a0.defers→(∀ s,(∀ i,i<29→wi15D i≠some s)→a.tmps.getD s undef=a0.tmps.getD s undef)→S w→(∀ i d,i<29→wi15D i=some d→wi15F kb tn tc xc yc la cx cy gx gy ta xa ya lz i (a.tmps.getD d undef) w)→Q .normal a w):(Code.region id ops true).wp Tryz.prog Q a0 w0:=by
 have r14:∀ args w,(callFunc 14 args).run Tryz.prog w=.ok (.enter 14 args) w:=eNo Tryz.func14 (by kernel_rfl) rfl
 refine wp_region_inv2 (by kernel_rfl) hlow (Inv 29 wi15D a0 (fun l a w=>S w∧Kept2 29 wi15D a0 l a) (fun _=>wi15F kb tn tc xc yc la cx cy gx gy ta xa ya lz)) (Inv.start ⟨hS,kept2_start _ _ _⟩) ?_ ?_
 ·intro l i o a w ho hl hcl hdep hI
  have hi:i<29:=by rw[←hsz];exact (Array.getElem?_eq_some_iff.1 ho).1
  have ev:∀ (s:Nat),a.eval (.tmp s)=a.tmps.getD s undef:=fun _=>rfl
  have evf:∀ f,a.eval (.func f)=.func (.func f) #[] #[]:=fun _=>rfl
  have evc:∀ c:Value,a.eval (.const c)=c:=fun _=>rfl
  have inj:∀ d,wi15D i=some d→∀ j d',j<29→wi15D j=some d'→j≠i→d'≠d:=fun d hd j d' hj hd' hne e=>hne (wi15D_inj j hj i hi (by rw[hd',hd,e]) (by rw[hd'];simp))
  have kp:∀ s,(∀ i,i<29→wi15D i≠some s)→a.tmps.getD s undef=a0.tmps.getD s undef:=hI.kept
  have hw:S w:=hI.world.1
  have k2:=hI.world.2
  have ex0:=hI.world.2
  have go:∀ {d:Nat}{v:Value}{w':World},wi15D i=some d→Below w.heap.size w w'→S w'→wi15F kb tn tc xc yc la cx cy gx gy ta xa ya lz i v w'→Inv 29 wi15D a0 (fun l a w=>S w∧Kept2 29 wi15D a0 l a) (fun _=>wi15F kb tn tc xc yc la cx cy gx gy ta xa ya lz) (fun j=>l j || j==i) (a.put (some d) v) w':=by
   intro d v w' hD hb hS' hF
   exact hI.put hi hD (Nat.lt_of_lt_of_le (wi15D_lt i hi d hD) hs) (inj d hD) ⟨hS',k2.put hD (by rw[hI.size];exact Nat.lt_of_lt_of_le (wi15D_lt i hi d hD) hs) hi⟩ hF (fun j u _ _ _ hf=>wi15F_below hf hb)
  rcases (show i=0∨i=1∨i=2∨i=3∨i=4∨i=5∨i=6∨i=7∨i=8∨i=9∨i=10∨i=11∨i=12∨i=13∨i=14∨i=15∨i=16∨i=17∨i=18∨i=19∨i=20∨i=21∨i=22∨i=23∨i=24∨i=25∨i=26∨i=27∨i=28 by omega) with rfl|rfl|rfl|rfl|rfl|rfl|rfl|rfl|rfl|rfl|rfl|rfl|rfl|rfl|rfl|rfl|rfl|rfl|rfl|rfl|rfl|rfl|rfl|rfl|rfl|rfl|rfl|rfl|rfl
  ·obtain⟨o',e1,e2,e3,e4,e5⟩:=o0
   obtain rfl:=sOp ho e1
   have dp:=dPo e5 hdep
   have U11:a.tmps.getD 11 undef=.slice (some gx) tn xc:=(kp 11 (by decide)).trans u11
   exact wVa (v:=.slice (some gx) tn xc) (w':=w) ho e4 (by simp[execOp,e3,ev,evc,U11]) (by rw[e2];exact go rfl (Below.refl _ _) hw rfl)
  ·obtain⟨o',e1,e2,e3,e4,e5⟩:=o1
   obtain rfl:=sOp ho e1
   have dp:=dPo e5 hdep
   have V0:a.tmps.getD 113 undef=.slice (some gx) tn xc:=hI.val 0 113 (by decide) rfl (dp 0 (by decide))
   exact wVa (v:=.int .i64 (tn:Int)) (w':=w) ho e4 (by simp[execOp,e3,ev,evc,V0,builtin,resolve,invoke,goInt,Builtin.len_,run_underlying Tryz.underlying31]) (by rw[e2];exact go rfl (Below.refl _ _) hw rfl)
  ·obtain⟨o',e1,e2,e3,e4,e5⟩:=o2
   obtain rfl:=sOp ho e1
   have dp:=dPo e5 hdep
   have U2:a.tmps.getD 2 undef=.pointer (some ⟨kb,0,none⟩):=(kp 2 (by decide)).trans u2
   exact wVa (v:=.pointer (some ⟨kb,10,none⟩)) (w':=w) ho e4 (by simp[execOp,e3,ev,evc,U2,x2 w]) (by rw[e2];exact go rfl (Below.refl _ _) hw rfl)
  ·obtain⟨o',e1,e2,e3,e4,e5⟩:=o3
   obtain rfl:=sOp ho e1
   have dp:=dPo e5 hdep
   have V2:a.tmps.getD 115 undef=.pointer (some ⟨kb,10,none⟩):=hI.val 2 115 (by decide) rfl (dp 2 (by decide))
   exact wVa (v:=.slice ta tn tc) (w':=w) ho e4 (by simp[execOp,e3,ev,evc,V2,x3 w hw]) (by rw[e2];exact go rfl (Below.refl _ _) hw rfl)
  ·obtain⟨o',e1,e2,e3,e4,e5⟩:=o4
   obtain rfl:=sOp ho e1
   have dp:=dPo e5 hdep
   have V3:a.tmps.getD 116 undef=.slice ta tn tc:=hI.val 3 116 (by decide) rfl (dp 3 (by decide))
   exact wVa (v:=.int .i64 (tn:Int)) (w':=w) ho e4 (by simp[execOp,e3,ev,evc,V3,builtin,resolve,invoke,goInt,Builtin.len_,run_underlying Tryz.underlying45]) (by rw[e2];exact go rfl (Below.refl _ _) hw rfl)
  ·obtain⟨o',e1,e2,e3,e4,e5⟩:=o5
   obtain rfl:=sOp ho e1
   have dp:=dPo e5 hdep
   have V1:a.tmps.getD 114 undef=.int .i64 (tn:Int):=hI.val 1 114 (by decide) rfl (dp 1 (by decide))
   have V4:a.tmps.getD 117 undef=.int .i64 (tn:Int):=hI.val 4 117 (by decide) rfl (dp 4 (by decide))
   exact wVa (v:=.bool true) (w':=w) ho e4 (by simp[execOp,e3,ev,evc,V1,V4,x5 w,eqGuard]) (by rw[e2];exact go rfl (Below.refl _ _) hw rfl)
  ·obtain⟨o',e1,e2,e3,e4,e5⟩:=o6
   obtain rfl:=sOp ho e1
   have dp:=dPo e5 hdep
   have V5:a.tmps.getD 118 undef=.bool true:=hI.val 5 118 (by decide) rfl (dp 5 (by decide))
   exact wVa (v:=.bool true) (w':=w) ho e4 (by simp[execOp,e3,ev,evc,V5]) (by rw[e2];exact go rfl (Below.refl _ _) hw rfl)
  ·obtain⟨o',e1,e2,e3,e4,e5⟩:=o7
   obtain rfl:=sOp ho e1
   have dp:=dPo e5 hdep
   have V6:a.tmps.getD 119 undef=.bool true:=hI.val 6 119 (by decide) rfl (dp 6 (by decide))
   have U14:a.tmps.getD 14 undef=.slice (some gy) tn yc:=(kp 14 (by decide)).trans u14
   obtain⟨og,g1,g2,-,-,-⟩:=o6
   exact wVb (v:=.slice (some gy) tn yc) (w':=w) ho e4 g1 g2 (by rw[hI.size];exact Nat.lt_of_lt_of_le (by decide) hs) V6 (by simp[execOp,e3,ev,evc,V6,U14]) (by rw[e2];exact go rfl (Below.refl _ _) hw rfl)
  ·obtain⟨o',e1,e2,e3,e4,e5⟩:=o8
   obtain rfl:=sOp ho e1
   have dp:=dPo e5 hdep
   have V6:a.tmps.getD 119 undef=.bool true:=hI.val 6 119 (by decide) rfl (dp 6 (by decide))
   have V7:a.tmps.getD 120 undef=.slice (some gy) tn yc:=hI.val 7 120 (by decide) rfl (dp 7 (by decide))
   obtain⟨og,g1,g2,-,-,-⟩:=o6
   exact wVb (v:=.int .i64 (tn:Int)) (w':=w) ho e4 g1 g2 (by rw[hI.size];exact Nat.lt_of_lt_of_le (by decide) hs) V6 (by simp[execOp,e3,ev,evc,V6,V7,builtin,resolve,invoke,goInt,Builtin.len_,run_underlying Tryz.underlying31]) (by rw[e2];exact go rfl (Below.refl _ _) hw rfl)
  ·obtain⟨o',e1,e2,e3,e4,e5⟩:=o9
   obtain rfl:=sOp ho e1
   have dp:=dPo e5 hdep
   have V6:a.tmps.getD 119 undef=.bool true:=hI.val 6 119 (by decide) rfl (dp 6 (by decide))
   have U11:a.tmps.getD 11 undef=.slice (some gx) tn xc:=(kp 11 (by decide)).trans u11
   obtain⟨og,g1,g2,-,-,-⟩:=o6
   exact wVb (v:=.slice (some gx) tn xc) (w':=w) ho e4 g1 g2 (by rw[hI.size];exact Nat.lt_of_lt_of_le (by decide) hs) V6 (by simp[execOp,e3,ev,evc,V6,U11]) (by rw[e2];exact go rfl (Below.refl _ _) hw rfl)
  ·obtain⟨o',e1,e2,e3,e4,e5⟩:=o10
   obtain rfl:=sOp ho e1
   have dp:=dPo e5 hdep
   have V6:a.tmps.getD 119 undef=.bool true:=hI.val 6 119 (by decide) rfl (dp 6 (by decide))
   have V9:a.tmps.getD 122 undef=.slice (some gx) tn xc:=hI.val 9 122 (by decide) rfl (dp 9 (by decide))
   obtain⟨og,g1,g2,-,-,-⟩:=o6
   exact wVb (v:=.int .i64 (tn:Int)) (w':=w) ho e4 g1 g2 (by rw[hI.size];exact Nat.lt_of_lt_of_le (by decide) hs) V6 (by simp[execOp,e3,ev,evc,V6,V9,builtin,resolve,invoke,goInt,Builtin.len_,run_underlying Tryz.underlying31]) (by rw[e2];exact go rfl (Below.refl _ _) hw rfl)
  ·obtain⟨o',e1,e2,e3,e4,e5⟩:=o11
   obtain rfl:=sOp ho e1
   have dp:=dPo e5 hdep
   have V6:a.tmps.getD 119 undef=.bool true:=hI.val 6 119 (by decide) rfl (dp 6 (by decide))
   have V8:a.tmps.getD 121 undef=.int .i64 (tn:Int):=hI.val 8 121 (by decide) rfl (dp 8 (by decide))
   have V10:a.tmps.getD 123 undef=.int .i64 (tn:Int):=hI.val 10 123 (by decide) rfl (dp 10 (by decide))
   obtain⟨og,g1,g2,-,-,-⟩:=o6
   exact wVb (v:=.bool true) (w':=w) ho e4 g1 g2 (by rw[hI.size];exact Nat.lt_of_lt_of_le (by decide) hs) V6 (by simp[execOp,e3,ev,evc,V6,V8,V10,x11 w,eqGuard]) (by rw[e2];exact go rfl (Below.refl _ _) hw rfl)
  ·obtain⟨o',e1,e2,e3,e4,e5⟩:=o12
   obtain rfl:=sOp ho e1
   have dp:=dPo e5 hdep
   have V6:a.tmps.getD 119 undef=.bool true:=hI.val 6 119 (by decide) rfl (dp 6 (by decide))
   have V11:a.tmps.getD 124 undef=.bool true:=hI.val 11 124 (by decide) rfl (dp 11 (by decide))
   exact wVa (v:=.bool true) (w':=w) ho e4 (by simp[execOp,e3,ev,evc,V6,V11,asBool]) (by rw[e2];exact go rfl (Below.refl _ _) hw rfl)
  ·obtain⟨o',e1,e2,e3,e4,e5⟩:=o13
   obtain rfl:=sOp ho e1
   have dp:=dPo e5 hdep
   have V12:a.tmps.getD 125 undef=.bool true:=hI.val 12 125 (by decide) rfl (dp 12 (by decide))
   exact wVa (v:=.bool true) (w':=w) ho e4 (by simp[execOp,e3,ev,evc,V12]) (by rw[e2];exact go rfl (Below.refl _ _) hw rfl)
  ·obtain⟨o',e1,e2,e3,e4,e5⟩:=o14
   obtain rfl:=sOp ho e1
   have dp:=dPo e5 hdep
   have V13:a.tmps.getD 126 undef=.bool true:=hI.val 13 126 (by decide) rfl (dp 13 (by decide))
   have U11:a.tmps.getD 11 undef=.slice (some gx) tn xc:=(kp 11 (by decide)).trans u11
   obtain⟨og,g1,g2,-,-,-⟩:=o13
   exact wVb (v:=.slice (some gx) tn xc) (w':=w) ho e4 g1 g2 (by rw[hI.size];exact Nat.lt_of_lt_of_le (by decide) hs) V13 (by simp[execOp,e3,ev,evc,V13,U11]) (by rw[e2];exact go rfl (Below.refl _ _) hw rfl)
  ·obtain⟨o',e1,e2,e3,e4,e5⟩:=o15
   obtain rfl:=sOp ho e1
   have dp:=dPo e5 hdep
   have V13:a.tmps.getD 126 undef=.bool true:=hI.val 13 126 (by decide) rfl (dp 13 (by decide))
   have U11:a.tmps.getD 11 undef=.slice (some gx) tn xc:=(kp 11 (by decide)).trans u11
   obtain⟨og,g1,g2,-,-,-⟩:=o13
   exact wVb (v:=.slice (some gx) tn xc) (w':=w) ho e4 g1 g2 (by rw[hI.size];exact Nat.lt_of_lt_of_le (by decide) hs) V13 (by simp[execOp,e3,ev,evc,V13,U11]) (by rw[e2];exact go rfl (Below.refl _ _) hw rfl)
  ·obtain⟨o',e1,e2,e3,e4,e5⟩:=o16
   obtain rfl:=sOp ho e1
   have dp:=dPo e5 hdep
   have V13:a.tmps.getD 126 undef=.bool true:=hI.val 13 126 (by decide) rfl (dp 13 (by decide))
   have V15:a.tmps.getD 128 undef=.slice (some gx) tn xc:=hI.val 15 128 (by decide) rfl (dp 15 (by decide))
   obtain⟨og,g1,g2,-,-,-⟩:=o13
   exact wVb (v:=.int .i64 (tn:Int)) (w':=w) ho e4 g1 g2 (by rw[hI.size];exact Nat.lt_of_lt_of_le (by decide) hs) V13 (by simp[execOp,e3,ev,evc,V13,V15,builtin,resolve,invoke,goInt,Builtin.len_,run_underlying Tryz.underlying31]) (by rw[e2];exact go rfl (Below.refl _ _) hw rfl)
  ·obtain⟨o',e1,e2,e3,e4,e5⟩:=o17
   obtain rfl:=sOp ho e1
   have dp:=dPo e5 hdep
   have V13:a.tmps.getD 126 undef=.bool true:=hI.val 13 126 (by decide) rfl (dp 13 (by decide))
   have V16:a.tmps.getD 129 undef=.int .i64 (tn:Int):=hI.val 16 129 (by decide) rfl (dp 16 (by decide))
   obtain⟨og,g1,g2,-,-,-⟩:=o13
   exact wVb (v:=.int .i64 lz) (w':=w) ho e4 g1 g2 (by rw[hI.size];exact Nat.lt_of_lt_of_le (by decide) hs) V13 (by simp[execOp,e3,ev,evc,V13,V16,x17 w,eqGuard]) (by rw[e2];exact go rfl (Below.refl _ _) hw rfl)
  ·obtain⟨o',e1,e2,e3,e4,e5⟩:=o18
   obtain rfl:=sOp ho e1
   have dp:=dPo e5 hdep
   have V13:a.tmps.getD 126 undef=.bool true:=hI.val 13 126 (by decide) rfl (dp 13 (by decide))
   have V14:a.tmps.getD 127 undef=.slice (some gx) tn xc:=hI.val 14 127 (by decide) rfl (dp 14 (by decide))
   have V17:a.tmps.getD 130 undef=.int .i64 lz:=hI.val 17 130 (by decide) rfl (dp 17 (by decide))
   obtain⟨og,g1,g2,-,-,-⟩:=o13
   exact wVb (v:=.pointer (some (gx.add (tn-1)))) (w':=w) ho e4 g1 g2 (by rw[hI.size];exact Nat.lt_of_lt_of_le (by decide) hs) V13 (by simp[execOp,e3,ev,evc,V13,V14,V17,x18 w]) (by rw[e2];exact go rfl (Below.refl _ _) hw rfl)
  ·obtain⟨o',e1,e2,e3,e4,e5⟩:=o19
   obtain rfl:=sOp ho e1
   have dp:=dPo e5 hdep
   have V13:a.tmps.getD 126 undef=.bool true:=hI.val 13 126 (by decide) rfl (dp 13 (by decide))
   have V18:a.tmps.getD 131 undef=.pointer (some (gx.add (tn-1))):=hI.val 18 131 (by decide) rfl (dp 18 (by decide))
   obtain⟨og,g1,g2,-,-,-⟩:=o13
   exact wVb (v:=.slice xa la cx) (w':=w) ho e4 g1 g2 (by rw[hI.size];exact Nat.lt_of_lt_of_le (by decide) hs) V13 (by simp[execOp,e3,ev,evc,V13,V18,x19 w hw]) (by rw[e2];exact go rfl (Below.refl _ _) hw rfl)
  ·obtain⟨o',e1,e2,e3,e4,e5⟩:=o20
   obtain rfl:=sOp ho e1
   have dp:=dPo e5 hdep
   have V13:a.tmps.getD 126 undef=.bool true:=hI.val 13 126 (by decide) rfl (dp 13 (by decide))
   have U14:a.tmps.getD 14 undef=.slice (some gy) tn yc:=(kp 14 (by decide)).trans u14
   obtain⟨og,g1,g2,-,-,-⟩:=o13
   exact wVb (v:=.slice (some gy) tn yc) (w':=w) ho e4 g1 g2 (by rw[hI.size];exact Nat.lt_of_lt_of_le (by decide) hs) V13 (by simp[execOp,e3,ev,evc,V13,U14]) (by rw[e2];exact go rfl (Below.refl _ _) hw rfl)
  ·obtain⟨o',e1,e2,e3,e4,e5⟩:=o21
   obtain rfl:=sOp ho e1
   have dp:=dPo e5 hdep
   have V13:a.tmps.getD 126 undef=.bool true:=hI.val 13 126 (by decide) rfl (dp 13 (by decide))
   have U14:a.tmps.getD 14 undef=.slice (some gy) tn yc:=(kp 14 (by decide)).trans u14
   obtain⟨og,g1,g2,-,-,-⟩:=o13
   exact wVb (v:=.slice (some gy) tn yc) (w':=w) ho e4 g1 g2 (by rw[hI.size];exact Nat.lt_of_lt_of_le (by decide) hs) V13 (by simp[execOp,e3,ev,evc,V13,U14]) (by rw[e2];exact go rfl (Below.refl _ _) hw rfl)
  ·obtain⟨o',e1,e2,e3,e4,e5⟩:=o22
   obtain rfl:=sOp ho e1
   have dp:=dPo e5 hdep
   have V13:a.tmps.getD 126 undef=.bool true:=hI.val 13 126 (by decide) rfl (dp 13 (by decide))
   have V21:a.tmps.getD 134 undef=.slice (some gy) tn yc:=hI.val 21 134 (by decide) rfl (dp 21 (by decide))
   obtain⟨og,g1,g2,-,-,-⟩:=o13
   exact wVb (v:=.int .i64 (tn:Int)) (w':=w) ho e4 g1 g2 (by rw[hI.size];exact Nat.lt_of_lt_of_le (by decide) hs) V13 (by simp[execOp,e3,ev,evc,V13,V21,builtin,resolve,invoke,goInt,Builtin.len_,run_underlying Tryz.underlying31]) (by rw[e2];exact go rfl (Below.refl _ _) hw rfl)
  ·obtain⟨o',e1,e2,e3,e4,e5⟩:=o23
   obtain rfl:=sOp ho e1
   have dp:=dPo e5 hdep
   have V13:a.tmps.getD 126 undef=.bool true:=hI.val 13 126 (by decide) rfl (dp 13 (by decide))
   have V22:a.tmps.getD 135 undef=.int .i64 (tn:Int):=hI.val 22 135 (by decide) rfl (dp 22 (by decide))
   obtain⟨og,g1,g2,-,-,-⟩:=o13
   exact wVb (v:=.int .i64 lz) (w':=w) ho e4 g1 g2 (by rw[hI.size];exact Nat.lt_of_lt_of_le (by decide) hs) V13 (by simp[execOp,e3,ev,evc,V13,V22,x23 w,eqGuard]) (by rw[e2];exact go rfl (Below.refl _ _) hw rfl)
  ·obtain⟨o',e1,e2,e3,e4,e5⟩:=o24
   obtain rfl:=sOp ho e1
   have dp:=dPo e5 hdep
   have V13:a.tmps.getD 126 undef=.bool true:=hI.val 13 126 (by decide) rfl (dp 13 (by decide))
   have V20:a.tmps.getD 133 undef=.slice (some gy) tn yc:=hI.val 20 133 (by decide) rfl (dp 20 (by decide))
   have V23:a.tmps.getD 136 undef=.int .i64 lz:=hI.val 23 136 (by decide) rfl (dp 23 (by decide))
   obtain⟨og,g1,g2,-,-,-⟩:=o13
   exact wVb (v:=.pointer (some (gy.add (tn-1)))) (w':=w) ho e4 g1 g2 (by rw[hI.size];exact Nat.lt_of_lt_of_le (by decide) hs) V13 (by simp[execOp,e3,ev,evc,V13,V20,V23,x24 w]) (by rw[e2];exact go rfl (Below.refl _ _) hw rfl)
  ·obtain⟨o',e1,e2,e3,e4,e5⟩:=o25
   obtain rfl:=sOp ho e1
   have dp:=dPo e5 hdep
   have V13:a.tmps.getD 126 undef=.bool true:=hI.val 13 126 (by decide) rfl (dp 13 (by decide))
   have V24:a.tmps.getD 137 undef=.pointer (some (gy.add (tn-1))):=hI.val 24 137 (by decide) rfl (dp 24 (by decide))
   obtain⟨og,g1,g2,-,-,-⟩:=o13
   exact wVb (v:=.slice ya la cy) (w':=w) ho e4 g1 g2 (by rw[hI.size];exact Nat.lt_of_lt_of_le (by decide) hs) V13 (by simp[execOp,e3,ev,evc,V13,V24,x25 w hw]) (by rw[e2];exact go rfl (Below.refl _ _) hw rfl)
  ·obtain⟨o',e1,e2,e3,e4,e5⟩:=o26
   obtain rfl:=sOp ho e1
   have dp:=dPo e5 hdep
   have V13:a.tmps.getD 126 undef=.bool true:=hI.val 13 126 (by decide) rfl (dp 13 (by decide))
   have V19:a.tmps.getD 132 undef=.slice xa la cx:=hI.val 19 132 (by decide) rfl (dp 19 (by decide))
   have V25:a.tmps.getD 138 undef=.slice ya la cy:=hI.val 25 138 (by decide) rfl (dp 25 (by decide))
   obtain⟨og,g1,g2,-,-,-⟩:=o13
   refine wCb (f:=14) (args:=#[.slice xa la cx,.slice ya la cy]) ho e4 g1 g2 (by rw[hI.size];exact Nat.lt_of_lt_of_le (by decide) hs) V13 (by simp[execOp,e3,resolve,invoke,Deferred.ofValue,r14,ev,evf,evc,V13,V19,V25]) ((x26 w hw).mono ?_)
   rintro e W' ⟨rfl,hb6,hs6⟩
   refine⟨_,rfl,?_⟩
   rw[e2]
   exact go rfl hb6 hs6 rfl
  ·obtain⟨o',e1,e2,e3,e4,e5⟩:=o27
   obtain rfl:=sOp ho e1
   have dp:=dPo e5 hdep
   have V13:a.tmps.getD 126 undef=.bool true:=hI.val 13 126 (by decide) rfl (dp 13 (by decide))
   have V26:a.tmps.getD 139 undef=.bool true:=hI.val 26 139 (by decide) rfl (dp 26 (by decide))
   exact wVa (v:=.bool true) (w':=w) ho e4 (by simp[execOp,e3,ev,evc,V13,V26,asBool]) (by rw[e2];exact go rfl (Below.refl _ _) hw rfl)
  ·obtain⟨o',e1,e2,e3,e4,e5⟩:=o28
   obtain rfl:=sOp ho e1
   have dp:=dPo e5 hdep
   have V27:a.tmps.getD 140 undef=.bool true:=hI.val 27 140 (by decide) rfl (dp 27 (by decide))
   exact wVa (v:=.bool true) (w':=w) ho e4 (by simp[execOp,e3,ev,evc,V27]) (by rw[e2];exact go rfl (Below.refl _ _) hw rfl)
 ·intro l a w hall hI
  have all:∀ j,j<29→l j=true:=fun j hj=>hall j (by rw[hsz];exact hj)
  exact fin a w hI.size hI.defers hI.kept hI.world.1 (fun i d hi hD=>hI.val i d hi hD (all i hi))
end
end Go.Proofs.YthliomlmhfjhnaaGreat
