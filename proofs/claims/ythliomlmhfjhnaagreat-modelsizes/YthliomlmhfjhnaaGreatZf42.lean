/- Texts put together. -/
import Derived.Test.YthliomlmhfjhnaaGreatRows
import Derived.Test.YthliomlmhfjhnaaGreatZf38
import Derived.Test.YthliomlmhfjhnaaGreatZf31
namespace Go.Proofs.YthliomlmhfjhnaaGreat
set_option maxRecDepth 20000
set_option maxHeartbeats 16000000
open Go.ChangeShapes Go.WideShapes Go.ChangeAt Go.RowKit
set_option linter.unusedVariables false
set_option linter.unusedSimpArgs false
section
def wo8D (i:Nat):Option Nat:=match i with|0=>some 63|1=>some 64|2=>some 65|3=>some 66|4=>some 67|5=>some 68|6=>some 69|7=>some 70|8=>some 71|9=>some 72|10=>some 73|11=>some 74|12=>some 75|13=>some 76|14=>some 77|15=>some 78|16=>some 79|17=>some 80|18=>some 81|19=>some 82|20=>some 83|21=>some 84|22=>some 85|23=>some 86|24=>some 87|25=>some 88|26=>some 89|27=>some 90|28=>some 91|29=>some 92|30=>some 93|31=>some 94|32=>some 95|33=>some 96|34=>some 97|35=>some 98|36=>some 99|37=>some 100|38=>some 101|39=>some 102|40=>some 103|41=>some 104|42=>some 105|43=>some 106|44=>some 107|45=>some 108|46=>some 109|47=>some 0|_=>none
theorem wo8D_inj:∀ i,i<48→∀ j,j<48→wo8D i=wo8D j→wo8D i≠none→i=j:=by decide
theorem wo8D_lt:∀ i,i<48→∀ d,wo8D i=some d→d<110:=by
 intro i hi d h
 have:∀ i,i<48→(wo8D i).all (fun d=>decide (d<110))=true:=by decide
 have:=this i hi
 rw[h] at this
 simpa using this
def wo8F (ra oa sa ga qa qb:Option Addr)(rc oc sc gc rm1 qc rm2 qd:Nat)(gx:Addr)(i:Nat)(q:Value)(w:World):Prop:=match i with
 | 0=>q=.bool true
 | 1=>q=.bool true
 | 2=>q=.int .i64 0
 | 3=>q=.bool true
 | 4=>q=.bool true
 | 5=>q=.bool true
 | 6=>q=.slice ra 4 rc
 | 7=>∃ yb,q=.slice (some ⟨yb,0,none⟩) 4 4∧Reads .i64 w (some ⟨yb,0,none⟩) 4 [0,0,0,0]
 | 8=>q=.bool true
 | 9=>q=.bool true
 | 10=>q=.bool true
 | 11=>q=.slice oa 2 oc
 | 12=>∃ yb,q=.slice (some ⟨yb,0,none⟩) 2 2∧Reads .i64 w (some ⟨yb,0,none⟩) 2 [0,0]
 | 13=>q=.bool true
 | 14=>q=.bool true
 | 15=>q=.bool true
 | 16=>q=.slice sa 2 sc
 | 17=>∃ yb,q=.slice (some ⟨yb,0,none⟩) 2 2∧Reads .i64 w (some ⟨yb,0,none⟩) 2 [0,0]
 | 18=>q=.bool true
 | 19=>q=.bool true
 | 20=>q=.bool true
 | 21=>q=.int .i64 0
 | 22=>q=.bool true
 | 23=>q=.bool true
 | 24=>q=.bool true
 | 25=>q=.slice (some gx) 3 gc
 | 26=>q=.int .i64 3
 | 27=>q=.bool true
 | 28=>q=.bool true
 | 29=>q=.bool true
 | 30=>q=.int .i64 0
 | 31=>q=.bool true
 | 32=>q=.bool true
 | 33=>q=.bool true
 | 34=>q=.int .i64 20
 | 35=>q=.bool true
 | 36=>q=.bool true
 | 37=>q=.bool true
 | 38=>q=.slice (some gx) 3 gc
 | 39=>q=.pointer (some (gx.add 0))
 | 40=>q=.slice qa rm1 qc
 | 41=>q=.slice (some gx) 3 gc
 | 42=>q=.pointer (some (gx.add 1))
 | 43=>q=.slice qb rm2 qd
 | 44=>q=.bool false
 | 45=>q=.bool true
 | 46=>q=.bool true
 | 47=>q=.bool true
 | _=>True
theorem wo8F_below {ra oa sa ga qa qb:Option Addr}{rc oc sc gc rm1 qc rm2 qd:Nat}{gx:Addr}{i:Nat}{q:Value}{w w':World}(h:wo8F ra oa sa ga qa qb rc oc sc gc rm1 qc rm2 qd gx i q w)(hb:Below w.heap.size w w'):wo8F ra oa sa ga qa qb rc oc sc gc rm1 qc rm2 qd gx i q w':=by
 unfold wo8F at h ⊢
 split
 ·exact h
 ·exact h
 ·exact h
 ·exact h
 ·exact h
 ·exact h
 ·exact h
 ·obtain⟨yb,h1,h2⟩:=h;exact⟨yb,h1,h2.below hb⟩
 ·exact h
 ·exact h
 ·exact h
 ·exact h
 ·obtain⟨yb,h1,h2⟩:=h;exact⟨yb,h1,h2.below hb⟩
 ·exact h
 ·exact h
 ·exact h
 ·exact h
 ·obtain⟨yb,h1,h2⟩:=h;exact⟨yb,h1,h2.below hb⟩
 ·exact h
 ·exact h
 ·exact h
 ·exact h
 ·exact h
 ·exact h
 ·exact h
 ·exact h
 ·exact h
 ·exact h
 ·exact h
 ·exact h
 ·exact h
 ·exact h
 ·exact h
 ·exact h
 ·exact h
 ·exact h
 ·exact h
 ·exact h
 ·exact h
 ·exact h
 ·exact h
 ·exact h
 ·exact h
 ·exact h
 ·exact h
 ·exact h
 ·exact h
 ·exact h
 ·trivial
theorem wo8_region {id:Nat}{ops:Array Oper}{Q:Exit→Act→World→Prop}{a0:Act}{w0:World}(ra oa sa ga qa qb:Option Addr)(rc oc sc gc rm1 qc rm2 qd:Nat)(gx:Addr)(S:World→Prop)(hlow:lowB ops=true)(hsz:ops.size=48)
  (o0:OpIn ops 0 (some 63) (.move (.tmp 2)) none []) (o1:OpIn ops 1 (some 64) (.move (.tmp 63)) none [0]) (o2:OpIn ops 2 (some 65) (.move (.tmp 7)) (some (1,true)) [1]) (o3:OpIn ops 3 (some 66) (.binOp .eql 35 (.tmp 65) (.const (.int .i64 0)) 35) (some (1,true)) [1,2]) (o4:OpIn ops 4 (some 67) (.pick (.tmp 64) (.tmp 66) (.const (.bool false))) none [1,3]) (o5:OpIn ops 5 (some 68) (.move (.tmp 67)) none [4]) (o6:OpIn ops 6 (some 69) (.move (.tmp 5)) (some (5,true)) [5]) (o7:OpIn ops 7 (some 70) (.buildSlice 34 4 #[(0,.const (.int .i64 0)),(1,.const (.int .i64 0)),(2,.const (.int .i64 0)),(3,.const (.int .i64 0))]) (some (5,true)) [5]) (o8:OpIn ops 8 (some 71) (.call { callee:=.value (.func 14),args:=#[.tmp 69,.tmp 70],argTypes:=#[34,34] }) (some (5,true)) [5,6,7]) (o9:OpIn ops 9 (some 72) (.pick (.tmp 68) (.tmp 71) (.const (.bool false))) none [5,8]) (o10:OpIn ops 10 (some 73) (.move (.tmp 72)) none [9]) (o11:OpIn ops 11 (some 74) (.move (.tmp 6)) (some (10,true)) [10]) (o12:OpIn ops 12 (some 75) (.buildSlice 34 2 #[(0,.const (.int .i64 0)),(1,.const (.int .i64 0))]) (some (10,true)) [10]) (o13:OpIn ops 13 (some 76) (.call { callee:=.value (.func 14),args:=#[.tmp 74,.tmp 75],argTypes:=#[34,34] }) (some (10,true)) [10,11,12]) (o14:OpIn ops 14 (some 77) (.pick (.tmp 73) (.tmp 76) (.const (.bool false))) none [10,13]) (o15:OpIn ops 15 (some 78) (.move (.tmp 77)) none [14]) (o16:OpIn ops 16 (some 79) (.move (.tmp 8)) (some (15,true)) [15]) (o17:OpIn ops 17 (some 80) (.buildSlice 34 2 #[(0,.const (.int .i64 0)),(1,.const (.int .i64 0))]) (some (15,true)) [15]) (o18:OpIn ops 18 (some 81) (.call { callee:=.value (.func 14),args:=#[.tmp 79,.tmp 80],argTypes:=#[34,34] }) (some (15,true)) [15,16,17]) (o19:OpIn ops 19 (some 82) (.pick (.tmp 78) (.tmp 81) (.const (.bool false))) none [15,18]) (o20:OpIn ops 20 (some 83) (.move (.tmp 82)) none [19]) (o21:OpIn ops 21 (some 84) (.move (.tmp 9)) (some (20,true)) [20]) (o22:OpIn ops 22 (some 85) (.binOp .eql 35 (.tmp 84) (.const (.int .i64 0)) 35) (some (20,true)) [20,21]) (o23:OpIn ops 23 (some 86) (.pick (.tmp 83) (.tmp 85) (.const (.bool false))) none [20,22]) (o24:OpIn ops 24 (some 87) (.move (.tmp 86)) none [23]) (o25:OpIn ops 25 (some 88) (.move (.tmp 10)) (some (24,true)) [24]) (o26:OpIn ops 26 (some 89) (.call { callee:=.builtin .len,args:=#[.tmp 88],argTypes:=#[31] }) (some (24,true)) [24,25]) (o27:OpIn ops 27 (some 90) (.binOp .eql 3 (.tmp 89) (.const (.int .i64 3)) 3) (some (24,true)) [24,26]) (o28:OpIn ops 28 (some 91) (.pick (.tmp 87) (.tmp 90) (.const (.bool false))) none [24,27]) (o29:OpIn ops 29 (some 92) (.move (.tmp 91)) none [28]) (o30:OpIn ops 30 (some 93) (.move (.tmp 12)) (some (29,true)) [29]) (o31:OpIn ops 31 (some 94) (.binOp .eql 35 (.tmp 93) (.const (.int .i64 0)) 35) (some (29,true)) [29,30]) (o32:OpIn ops 32 (some 95) (.pick (.tmp 92) (.tmp 94) (.const (.bool false))) none [29,31]) (o33:OpIn ops 33 (some 96) (.move (.tmp 95)) none [32]) (o34:OpIn ops 34 (some 97) (.move (.tmp 15)) (some (33,true)) [33]) (o35:OpIn ops 35 (some 98) (.binOp .eql 35 (.tmp 97) (.const (.int .i64 20)) 35) (some (33,true)) [33,34]) (o36:OpIn ops 36 (some 99) (.pick (.tmp 96) (.tmp 98) (.const (.bool false))) none [33,35]) (o37:OpIn ops 37 (some 100) (.move (.tmp 99)) none [36]) (o38:OpIn ops 38 (some 101) (.move (.tmp 10)) (some (37,true)) [37]) (o39:OpIn ops 39 (some 102) (.indexAddr 31 (.tmp 101) (.const (.int .i64 0))) (some (37,true)) [37,38]) (o40:OpIn ops 40 (some 103) (.load 34 (.tmp 102)) (some (37,true)) [37,39]) (o41:OpIn ops 41 (some 104) (.move (.tmp 10)) (some (37,true)) [37]) (o42:OpIn ops 42 (some 105) (.indexAddr 31 (.tmp 104) (.const (.int .i64 1))) (some (37,true)) [37,41]) (o43:OpIn ops 43 (some 106) (.load 34 (.tmp 105)) (some (37,true)) [37,42]) (o44:OpIn ops 44 (some 107) (.call { callee:=.value (.func 14),args:=#[.tmp 103,.tmp 106],argTypes:=#[34,34] }) (some (37,true)) [37,40,43]) (o45:OpIn ops 45 (some 108) (.unOp .not 4 (.tmp 107)) (some (37,true)) [37,44]) (o46:OpIn ops 46 (some 109) (.pick (.tmp 100) (.tmp 108) (.const (.bool false))) none [37,45]) (o47:OpIn ops 47 (some 0) (.assign (.tmp 109)) none [46])
  (hS:S w0.drew)
  (x3:∀ w,(binOp .eql 35 (.int .i64 0) (.int .i64 0)).run Tryz.prog w=.ok (.bool true) w)
  (x7:∀ w,S w→∃ yb W,(Instr.buildSlice 34 4 #[(0,.int .i64 0),(1,.int .i64 0),(2,.int .i64 0),(3,.int .i64 0)]).run Tryz.prog w=.ok (.slice (some ⟨yb,0,none⟩) 4 4) W∧Below w.heap.size w W∧S W∧Reads .i64 W (some ⟨yb,0,none⟩) 4 [0,0,0,0])
  (x8:∀ w yb,S w→Reads .i64 w (some ⟨yb,0,none⟩) 4 [0,0,0,0]→Calls Tryz.prog 14 #[.slice ra 4 rc,.slice (some ⟨yb,0,none⟩) 4 4] w fun e w'=>e=.returned (.bool true)∧Below w.heap.size w w'∧S w')
  (x12:∀ w,S w→∃ yb W,(Instr.buildSlice 34 2 #[(0,.int .i64 0),(1,.int .i64 0)]).run Tryz.prog w=.ok (.slice (some ⟨yb,0,none⟩) 2 2) W∧Below w.heap.size w W∧S W∧Reads .i64 W (some ⟨yb,0,none⟩) 2 [0,0])
  (x13:∀ w yb,S w→Reads .i64 w (some ⟨yb,0,none⟩) 2 [0,0]→Calls Tryz.prog 14 #[.slice oa 2 oc,.slice (some ⟨yb,0,none⟩) 2 2] w fun e w'=>e=.returned (.bool true)∧Below w.heap.size w w'∧S w')
  (x17:∀ w,S w→∃ yb W,(Instr.buildSlice 34 2 #[(0,.int .i64 0),(1,.int .i64 0)]).run Tryz.prog w=.ok (.slice (some ⟨yb,0,none⟩) 2 2) W∧Below w.heap.size w W∧S W∧Reads .i64 W (some ⟨yb,0,none⟩) 2 [0,0])
  (x18:∀ w yb,S w→Reads .i64 w (some ⟨yb,0,none⟩) 2 [0,0]→Calls Tryz.prog 14 #[.slice sa 2 sc,.slice (some ⟨yb,0,none⟩) 2 2] w fun e w'=>e=.returned (.bool true)∧Below w.heap.size w w'∧S w')
  (x22:∀ w,(binOp .eql 35 (.int .i64 0) (.int .i64 0)).run Tryz.prog w=.ok (.bool true) w)
  (x27:∀ w,(binOp .eql 3 (.int .i64 3) (.int .i64 3)).run Tryz.prog w=.ok (.bool true) w)
  (x31:∀ w,(binOp .eql 35 (.int .i64 0) (.int .i64 0)).run Tryz.prog w=.ok (.bool true) w)
  (x35:∀ w,(binOp .eql 35 (.int .i64 20) (.int .i64 20)).run Tryz.prog w=.ok (.bool true) w)
  (x39:∀ w,(Instr.indexAt 31 (.slice (some gx) 3 gc) (.int .i64 0)).run Tryz.prog w=.ok (.pointer (some (gx.add 0))) w)
  (x40:∀ w,S w→(Instr.loadAt 34 (.pointer (some (gx.add 0)))).run Tryz.prog w=.ok (.slice qa rm1 qc) w)
  (x42:∀ w,(Instr.indexAt 31 (.slice (some gx) 3 gc) (.int .i64 1)).run Tryz.prog w=.ok (.pointer (some (gx.add 1))) w)
  (x43:∀ w,S w→(Instr.loadAt 34 (.pointer (some (gx.add 1)))).run Tryz.prog w=.ok (.slice qb rm2 qd) w)
  (x44:∀ w,S w→Calls Tryz.prog 14 #[.slice qa rm1 qc,.slice qb rm2 qd] w fun e w'=>e=.returned (.bool false)∧Below w.heap.size w w'∧S w')
  (u2:a0.tmps.getD 2 undef=.bool true)
  (u5:a0.tmps.getD 5 undef=.slice ra 4 rc)
  (u6:a0.tmps.getD 6 undef=.slice oa 2 oc)
  (u7:a0.tmps.getD 7 undef=.int .i64 0)
  (u8:a0.tmps.getD 8 undef=.slice sa 2 sc)
  (u9:a0.tmps.getD 9 undef=.int .i64 0)
  (u10:a0.tmps.getD 10 undef=.slice (some gx) 3 gc)
  (u12:a0.tmps.getD 12 undef=.int .i64 0)
  (u15:a0.tmps.getD 15 undef=.int .i64 20)
  (hs:110≤a0.tmps.size)
  (fin:∀ a w,a.tmps.size=a0.tmps.size→a.defers=a0.defers→(∀ s,(∀ i,i<48→wo8D i≠some s)→a.tmps.getD s undef=a0.tmps.getD s undef)→S w→(∀ i d,i<48→wo8D i=some d→wo8F ra oa sa ga qa qb rc oc sc gc rm1 qc rm2 qd gx i (a.tmps.getD d undef) w)→Q .normal a w):(Code.region id ops true).wp Tryz.prog Q a0 w0:=by
 have r14:∀ args w,(callFunc 14 args).run Tryz.prog w=.ok (.enter 14 args) w:=eNo Tryz.func14 (by kernel_rfl) rfl
 refine wp_region_inv2 (by kernel_rfl) hlow (Inv 48 wo8D a0 (fun l a w=>S w∧Kept2 48 wo8D a0 l a) (fun _=>wo8F ra oa sa ga qa qb rc oc sc gc rm1 qc rm2 qd gx)) (Inv.start ⟨hS,kept2_start _ _ _⟩) ?_ ?_
 ·intro l i o a w ho hl hcl hdep hI
  have hi:i<48:=by rw[←hsz];exact (Array.getElem?_eq_some_iff.1 ho).1
  have ev:∀ (s:Nat),a.eval (.tmp s)=a.tmps.getD s undef:=fun _=>rfl
  have evf:∀ f,a.eval (.func f)=.func (.func f) #[] #[]:=fun _=>rfl
  have evc:∀ c:Value,a.eval (.const c)=c:=fun _=>rfl
  have inj:∀ d,wo8D i=some d→∀ j d',j<48→wo8D j=some d'→j≠i→d'≠d:=fun d hd j d' hj hd' hne e=>hne (wo8D_inj j hj i hi (by rw[hd',hd,e]) (by rw[hd'];simp))
  have kp:∀ s,(∀ i,i<48→wo8D i≠some s)→a.tmps.getD s undef=a0.tmps.getD s undef:=hI.kept
  have hw:S w:=hI.world.1
  have k2:=hI.world.2
  have ex0:=hI.world.2
  have go:∀ {d:Nat}{v:Value}{w':World},wo8D i=some d→Below w.heap.size w w'→S w'→wo8F ra oa sa ga qa qb rc oc sc gc rm1 qc rm2 qd gx i v w'→Inv 48 wo8D a0 (fun l a w=>S w∧Kept2 48 wo8D a0 l a) (fun _=>wo8F ra oa sa ga qa qb rc oc sc gc rm1 qc rm2 qd gx) (fun j=>l j || j==i) (a.put (some d) v) w':=by
   intro d v w' hD hb hS' hF
   exact hI.put hi hD (Nat.lt_of_lt_of_le (wo8D_lt i hi d hD) hs) (inj d hD) ⟨hS',k2.put hD (by rw[hI.size];exact Nat.lt_of_lt_of_le (wo8D_lt i hi d hD) hs) hi⟩ hF (fun j u _ _ _ hf=>wo8F_below hf hb)
  rcases (show i=0∨i=1∨i=2∨i=3∨i=4∨i=5∨i=6∨i=7∨i=8∨i=9∨i=10∨i=11∨i=12∨i=13∨i=14∨i=15∨i=16∨i=17∨i=18∨i=19∨i=20∨i=21∨i=22∨i=23∨i=24∨i=25∨i=26∨i=27∨i=28∨i=29∨i=30∨i=31∨i=32∨i=33∨i=34∨i=35∨i=36∨i=37∨i=38∨i=39∨i=40∨i=41∨i=42∨i=43∨i=44∨i=45∨i=46∨i=47 by omega) with rfl|rfl|rfl|rfl|rfl|rfl|rfl|rfl|rfl|rfl|rfl|rfl|rfl|rfl|rfl|rfl|rfl|rfl|rfl|rfl|rfl|rfl|rfl|rfl|rfl|rfl|rfl|rfl|rfl|rfl|rfl|rfl|rfl|rfl|rfl|rfl|rfl|rfl|rfl|rfl|rfl|rfl|rfl|rfl|rfl|rfl|rfl|rfl
  ·obtain⟨o',e1,e2,e3,e4,e5⟩:=o0
   obtain rfl:=sOp ho e1
   have dp:=dPo e5 hdep
   have U2:a.tmps.getD 2 undef=.bool true:=(kp 2 (by decide)).trans u2
   exact wVa (v:=.bool true) (w':=w) ho e4 (by simp[execOp,e3,ev,evc,U2]) (by rw[e2];exact go rfl (Below.refl _ _) hw rfl)
  ·obtain⟨o',e1,e2,e3,e4,e5⟩:=o1
   obtain rfl:=sOp ho e1
   have dp:=dPo e5 hdep
   have V0:a.tmps.getD 63 undef=.bool true:=hI.val 0 63 (by decide) rfl (dp 0 (by decide))
   exact wVa (v:=.bool true) (w':=w) ho e4 (by simp[execOp,e3,ev,evc,V0]) (by rw[e2];exact go rfl (Below.refl _ _) hw rfl)
  ·obtain⟨o',e1,e2,e3,e4,e5⟩:=o2
   obtain rfl:=sOp ho e1
   have dp:=dPo e5 hdep
   have V1:a.tmps.getD 64 undef=.bool true:=hI.val 1 64 (by decide) rfl (dp 1 (by decide))
   have U7:a.tmps.getD 7 undef=.int .i64 0:=(kp 7 (by decide)).trans u7
   obtain⟨og,g1,g2,-,-,-⟩:=o1
   exact wVb (v:=.int .i64 0) (w':=w) ho e4 g1 g2 (by rw[hI.size];exact Nat.lt_of_lt_of_le (by decide) hs) V1 (by simp[execOp,e3,ev,evc,V1,U7]) (by rw[e2];exact go rfl (Below.refl _ _) hw rfl)
  ·obtain⟨o',e1,e2,e3,e4,e5⟩:=o3
   obtain rfl:=sOp ho e1
   have dp:=dPo e5 hdep
   have V1:a.tmps.getD 64 undef=.bool true:=hI.val 1 64 (by decide) rfl (dp 1 (by decide))
   have V2:a.tmps.getD 65 undef=.int .i64 0:=hI.val 2 65 (by decide) rfl (dp 2 (by decide))
   obtain⟨og,g1,g2,-,-,-⟩:=o1
   exact wVb (v:=.bool true) (w':=w) ho e4 g1 g2 (by rw[hI.size];exact Nat.lt_of_lt_of_le (by decide) hs) V1 (by simp[execOp,e3,ev,evc,V1,V2,x3 w,eqGuard]) (by rw[e2];exact go rfl (Below.refl _ _) hw rfl)
  ·obtain⟨o',e1,e2,e3,e4,e5⟩:=o4
   obtain rfl:=sOp ho e1
   have dp:=dPo e5 hdep
   have V1:a.tmps.getD 64 undef=.bool true:=hI.val 1 64 (by decide) rfl (dp 1 (by decide))
   have V3:a.tmps.getD 66 undef=.bool true:=hI.val 3 66 (by decide) rfl (dp 3 (by decide))
   exact wVa (v:=.bool true) (w':=w) ho e4 (by simp[execOp,e3,ev,evc,V1,V3,asBool]) (by rw[e2];exact go rfl (Below.refl _ _) hw rfl)
  ·obtain⟨o',e1,e2,e3,e4,e5⟩:=o5
   obtain rfl:=sOp ho e1
   have dp:=dPo e5 hdep
   have V4:a.tmps.getD 67 undef=.bool true:=hI.val 4 67 (by decide) rfl (dp 4 (by decide))
   exact wVa (v:=.bool true) (w':=w) ho e4 (by simp[execOp,e3,ev,evc,V4]) (by rw[e2];exact go rfl (Below.refl _ _) hw rfl)
  ·obtain⟨o',e1,e2,e3,e4,e5⟩:=o6
   obtain rfl:=sOp ho e1
   have dp:=dPo e5 hdep
   have V5:a.tmps.getD 68 undef=.bool true:=hI.val 5 68 (by decide) rfl (dp 5 (by decide))
   have U5:a.tmps.getD 5 undef=.slice ra 4 rc:=(kp 5 (by decide)).trans u5
   obtain⟨og,g1,g2,-,-,-⟩:=o5
   exact wVb (v:=.slice ra 4 rc) (w':=w) ho e4 g1 g2 (by rw[hI.size];exact Nat.lt_of_lt_of_le (by decide) hs) V5 (by simp[execOp,e3,ev,evc,V5,U5]) (by rw[e2];exact go rfl (Below.refl _ _) hw rfl)
  ·obtain⟨o',e1,e2,e3,e4,e5⟩:=o7
   obtain rfl:=sOp ho e1
   have dp:=dPo e5 hdep
   have V5:a.tmps.getD 68 undef=.bool true:=hI.val 5 68 (by decide) rfl (dp 5 (by decide))
   obtain⟨og,g1,g2,-,-,-⟩:=o5
   obtain⟨y6,W6,r6,hb6,hs6,f6⟩:=x7 w hw
   refine wVb (v:=.slice (some ⟨y6,0,none⟩) 4 4) (w':=W6) ho e4 g1 g2 (by rw[hI.size];exact Nat.lt_of_lt_of_le (by decide) hs) V5 (by simp[execOp,e3,ev,evc,V5,r6]) ?_
   rw[e2]
   exact go rfl hb6 hs6 ⟨y6,rfl,f6⟩
  ·obtain⟨o',e1,e2,e3,e4,e5⟩:=o8
   obtain rfl:=sOp ho e1
   have dp:=dPo e5 hdep
   have V5:a.tmps.getD 68 undef=.bool true:=hI.val 5 68 (by decide) rfl (dp 5 (by decide))
   have V6:a.tmps.getD 69 undef=.slice ra 4 rc:=hI.val 6 69 (by decide) rfl (dp 6 (by decide))
   obtain⟨b7,V7,f7⟩:∃ yb,a.tmps.getD 70 undef=.slice (some ⟨yb,0,none⟩) 4 4∧Reads .i64 w (some ⟨yb,0,none⟩) 4 [0,0,0,0]:=hI.val 7 70 (by decide) rfl (dp 7 (by decide))
   obtain⟨og,g1,g2,-,-,-⟩:=o5
   refine wCb (f:=14) (args:=#[.slice ra 4 rc,.slice (some ⟨b7,0,none⟩) 4 4]) ho e4 g1 g2 (by rw[hI.size];exact Nat.lt_of_lt_of_le (by decide) hs) V5 (by simp[execOp,e3,resolve,invoke,Deferred.ofValue,r14,ev,evf,evc,V5,V6,V7]) ((x8 w b7 hw f7).mono ?_)
   rintro e W' ⟨rfl,hb6,hs6⟩
   refine⟨_,rfl,?_⟩
   rw[e2]
   exact go rfl hb6 hs6 rfl
  ·obtain⟨o',e1,e2,e3,e4,e5⟩:=o9
   obtain rfl:=sOp ho e1
   have dp:=dPo e5 hdep
   have V5:a.tmps.getD 68 undef=.bool true:=hI.val 5 68 (by decide) rfl (dp 5 (by decide))
   have V8:a.tmps.getD 71 undef=.bool true:=hI.val 8 71 (by decide) rfl (dp 8 (by decide))
   exact wVa (v:=.bool true) (w':=w) ho e4 (by simp[execOp,e3,ev,evc,V5,V8,asBool]) (by rw[e2];exact go rfl (Below.refl _ _) hw rfl)
  ·obtain⟨o',e1,e2,e3,e4,e5⟩:=o10
   obtain rfl:=sOp ho e1
   have dp:=dPo e5 hdep
   have V9:a.tmps.getD 72 undef=.bool true:=hI.val 9 72 (by decide) rfl (dp 9 (by decide))
   exact wVa (v:=.bool true) (w':=w) ho e4 (by simp[execOp,e3,ev,evc,V9]) (by rw[e2];exact go rfl (Below.refl _ _) hw rfl)
  ·obtain⟨o',e1,e2,e3,e4,e5⟩:=o11
   obtain rfl:=sOp ho e1
   have dp:=dPo e5 hdep
   have V10:a.tmps.getD 73 undef=.bool true:=hI.val 10 73 (by decide) rfl (dp 10 (by decide))
   have U6:a.tmps.getD 6 undef=.slice oa 2 oc:=(kp 6 (by decide)).trans u6
   obtain⟨og,g1,g2,-,-,-⟩:=o10
   exact wVb (v:=.slice oa 2 oc) (w':=w) ho e4 g1 g2 (by rw[hI.size];exact Nat.lt_of_lt_of_le (by decide) hs) V10 (by simp[execOp,e3,ev,evc,V10,U6]) (by rw[e2];exact go rfl (Below.refl _ _) hw rfl)
  ·obtain⟨o',e1,e2,e3,e4,e5⟩:=o12
   obtain rfl:=sOp ho e1
   have dp:=dPo e5 hdep
   have V10:a.tmps.getD 73 undef=.bool true:=hI.val 10 73 (by decide) rfl (dp 10 (by decide))
   obtain⟨og,g1,g2,-,-,-⟩:=o10
   obtain⟨y6,W6,r6,hb6,hs6,f6⟩:=x12 w hw
   refine wVb (v:=.slice (some ⟨y6,0,none⟩) 2 2) (w':=W6) ho e4 g1 g2 (by rw[hI.size];exact Nat.lt_of_lt_of_le (by decide) hs) V10 (by simp[execOp,e3,ev,evc,V10,r6]) ?_
   rw[e2]
   exact go rfl hb6 hs6 ⟨y6,rfl,f6⟩
  ·obtain⟨o',e1,e2,e3,e4,e5⟩:=o13
   obtain rfl:=sOp ho e1
   have dp:=dPo e5 hdep
   have V10:a.tmps.getD 73 undef=.bool true:=hI.val 10 73 (by decide) rfl (dp 10 (by decide))
   have V11:a.tmps.getD 74 undef=.slice oa 2 oc:=hI.val 11 74 (by decide) rfl (dp 11 (by decide))
   obtain⟨b12,V12,f12⟩:∃ yb,a.tmps.getD 75 undef=.slice (some ⟨yb,0,none⟩) 2 2∧Reads .i64 w (some ⟨yb,0,none⟩) 2 [0,0]:=hI.val 12 75 (by decide) rfl (dp 12 (by decide))
   obtain⟨og,g1,g2,-,-,-⟩:=o10
   refine wCb (f:=14) (args:=#[.slice oa 2 oc,.slice (some ⟨b12,0,none⟩) 2 2]) ho e4 g1 g2 (by rw[hI.size];exact Nat.lt_of_lt_of_le (by decide) hs) V10 (by simp[execOp,e3,resolve,invoke,Deferred.ofValue,r14,ev,evf,evc,V10,V11,V12]) ((x13 w b12 hw f12).mono ?_)
   rintro e W' ⟨rfl,hb6,hs6⟩
   refine⟨_,rfl,?_⟩
   rw[e2]
   exact go rfl hb6 hs6 rfl
  ·obtain⟨o',e1,e2,e3,e4,e5⟩:=o14
   obtain rfl:=sOp ho e1
   have dp:=dPo e5 hdep
   have V10:a.tmps.getD 73 undef=.bool true:=hI.val 10 73 (by decide) rfl (dp 10 (by decide))
   have V13:a.tmps.getD 76 undef=.bool true:=hI.val 13 76 (by decide) rfl (dp 13 (by decide))
   exact wVa (v:=.bool true) (w':=w) ho e4 (by simp[execOp,e3,ev,evc,V10,V13,asBool]) (by rw[e2];exact go rfl (Below.refl _ _) hw rfl)
  ·obtain⟨o',e1,e2,e3,e4,e5⟩:=o15
   obtain rfl:=sOp ho e1
   have dp:=dPo e5 hdep
   have V14:a.tmps.getD 77 undef=.bool true:=hI.val 14 77 (by decide) rfl (dp 14 (by decide))
   exact wVa (v:=.bool true) (w':=w) ho e4 (by simp[execOp,e3,ev,evc,V14]) (by rw[e2];exact go rfl (Below.refl _ _) hw rfl)
  ·obtain⟨o',e1,e2,e3,e4,e5⟩:=o16
   obtain rfl:=sOp ho e1
   have dp:=dPo e5 hdep
   have V15:a.tmps.getD 78 undef=.bool true:=hI.val 15 78 (by decide) rfl (dp 15 (by decide))
   have U8:a.tmps.getD 8 undef=.slice sa 2 sc:=(kp 8 (by decide)).trans u8
   obtain⟨og,g1,g2,-,-,-⟩:=o15
   exact wVb (v:=.slice sa 2 sc) (w':=w) ho e4 g1 g2 (by rw[hI.size];exact Nat.lt_of_lt_of_le (by decide) hs) V15 (by simp[execOp,e3,ev,evc,V15,U8]) (by rw[e2];exact go rfl (Below.refl _ _) hw rfl)
  ·obtain⟨o',e1,e2,e3,e4,e5⟩:=o17
   obtain rfl:=sOp ho e1
   have dp:=dPo e5 hdep
   have V15:a.tmps.getD 78 undef=.bool true:=hI.val 15 78 (by decide) rfl (dp 15 (by decide))
   obtain⟨og,g1,g2,-,-,-⟩:=o15
   obtain⟨y6,W6,r6,hb6,hs6,f6⟩:=x17 w hw
   refine wVb (v:=.slice (some ⟨y6,0,none⟩) 2 2) (w':=W6) ho e4 g1 g2 (by rw[hI.size];exact Nat.lt_of_lt_of_le (by decide) hs) V15 (by simp[execOp,e3,ev,evc,V15,r6]) ?_
   rw[e2]
   exact go rfl hb6 hs6 ⟨y6,rfl,f6⟩
  ·obtain⟨o',e1,e2,e3,e4,e5⟩:=o18
   obtain rfl:=sOp ho e1
   have dp:=dPo e5 hdep
   have V15:a.tmps.getD 78 undef=.bool true:=hI.val 15 78 (by decide) rfl (dp 15 (by decide))
   have V16:a.tmps.getD 79 undef=.slice sa 2 sc:=hI.val 16 79 (by decide) rfl (dp 16 (by decide))
   obtain⟨b17,V17,f17⟩:∃ yb,a.tmps.getD 80 undef=.slice (some ⟨yb,0,none⟩) 2 2∧Reads .i64 w (some ⟨yb,0,none⟩) 2 [0,0]:=hI.val 17 80 (by decide) rfl (dp 17 (by decide))
   obtain⟨og,g1,g2,-,-,-⟩:=o15
   refine wCb (f:=14) (args:=#[.slice sa 2 sc,.slice (some ⟨b17,0,none⟩) 2 2]) ho e4 g1 g2 (by rw[hI.size];exact Nat.lt_of_lt_of_le (by decide) hs) V15 (by simp[execOp,e3,resolve,invoke,Deferred.ofValue,r14,ev,evf,evc,V15,V16,V17]) ((x18 w b17 hw f17).mono ?_)
   rintro e W' ⟨rfl,hb6,hs6⟩
   refine⟨_,rfl,?_⟩
   rw[e2]
   exact go rfl hb6 hs6 rfl
  ·obtain⟨o',e1,e2,e3,e4,e5⟩:=o19
   obtain rfl:=sOp ho e1
   have dp:=dPo e5 hdep
   have V15:a.tmps.getD 78 undef=.bool true:=hI.val 15 78 (by decide) rfl (dp 15 (by decide))
   have V18:a.tmps.getD 81 undef=.bool true:=hI.val 18 81 (by decide) rfl (dp 18 (by decide))
   exact wVa (v:=.bool true) (w':=w) ho e4 (by simp[execOp,e3,ev,evc,V15,V18,asBool]) (by rw[e2];exact go rfl (Below.refl _ _) hw rfl)
  ·obtain⟨o',e1,e2,e3,e4,e5⟩:=o20
   obtain rfl:=sOp ho e1
   have dp:=dPo e5 hdep
   have V19:a.tmps.getD 82 undef=.bool true:=hI.val 19 82 (by decide) rfl (dp 19 (by decide))
   exact wVa (v:=.bool true) (w':=w) ho e4 (by simp[execOp,e3,ev,evc,V19]) (by rw[e2];exact go rfl (Below.refl _ _) hw rfl)
  ·obtain⟨o',e1,e2,e3,e4,e5⟩:=o21
   obtain rfl:=sOp ho e1
   have dp:=dPo e5 hdep
   have V20:a.tmps.getD 83 undef=.bool true:=hI.val 20 83 (by decide) rfl (dp 20 (by decide))
   have U9:a.tmps.getD 9 undef=.int .i64 0:=(kp 9 (by decide)).trans u9
   obtain⟨og,g1,g2,-,-,-⟩:=o20
   exact wVb (v:=.int .i64 0) (w':=w) ho e4 g1 g2 (by rw[hI.size];exact Nat.lt_of_lt_of_le (by decide) hs) V20 (by simp[execOp,e3,ev,evc,V20,U9]) (by rw[e2];exact go rfl (Below.refl _ _) hw rfl)
  ·obtain⟨o',e1,e2,e3,e4,e5⟩:=o22
   obtain rfl:=sOp ho e1
   have dp:=dPo e5 hdep
   have V20:a.tmps.getD 83 undef=.bool true:=hI.val 20 83 (by decide) rfl (dp 20 (by decide))
   have V21:a.tmps.getD 84 undef=.int .i64 0:=hI.val 21 84 (by decide) rfl (dp 21 (by decide))
   obtain⟨og,g1,g2,-,-,-⟩:=o20
   exact wVb (v:=.bool true) (w':=w) ho e4 g1 g2 (by rw[hI.size];exact Nat.lt_of_lt_of_le (by decide) hs) V20 (by simp[execOp,e3,ev,evc,V20,V21,x22 w,eqGuard]) (by rw[e2];exact go rfl (Below.refl _ _) hw rfl)
  ·obtain⟨o',e1,e2,e3,e4,e5⟩:=o23
   obtain rfl:=sOp ho e1
   have dp:=dPo e5 hdep
   have V20:a.tmps.getD 83 undef=.bool true:=hI.val 20 83 (by decide) rfl (dp 20 (by decide))
   have V22:a.tmps.getD 85 undef=.bool true:=hI.val 22 85 (by decide) rfl (dp 22 (by decide))
   exact wVa (v:=.bool true) (w':=w) ho e4 (by simp[execOp,e3,ev,evc,V20,V22,asBool]) (by rw[e2];exact go rfl (Below.refl _ _) hw rfl)
  ·obtain⟨o',e1,e2,e3,e4,e5⟩:=o24
   obtain rfl:=sOp ho e1
   have dp:=dPo e5 hdep
   have V23:a.tmps.getD 86 undef=.bool true:=hI.val 23 86 (by decide) rfl (dp 23 (by decide))
   exact wVa (v:=.bool true) (w':=w) ho e4 (by simp[execOp,e3,ev,evc,V23]) (by rw[e2];exact go rfl (Below.refl _ _) hw rfl)
  ·obtain⟨o',e1,e2,e3,e4,e5⟩:=o25
   obtain rfl:=sOp ho e1
   have dp:=dPo e5 hdep
   have V24:a.tmps.getD 87 undef=.bool true:=hI.val 24 87 (by decide) rfl (dp 24 (by decide))
   have U10:a.tmps.getD 10 undef=.slice (some gx) 3 gc:=(kp 10 (by decide)).trans u10
   obtain⟨og,g1,g2,-,-,-⟩:=o24
   exact wVb (v:=.slice (some gx) 3 gc) (w':=w) ho e4 g1 g2 (by rw[hI.size];exact Nat.lt_of_lt_of_le (by decide) hs) V24 (by simp[execOp,e3,ev,evc,V24,U10]) (by rw[e2];exact go rfl (Below.refl _ _) hw rfl)
  ·obtain⟨o',e1,e2,e3,e4,e5⟩:=o26
   obtain rfl:=sOp ho e1
   have dp:=dPo e5 hdep
   have V24:a.tmps.getD 87 undef=.bool true:=hI.val 24 87 (by decide) rfl (dp 24 (by decide))
   have V25:a.tmps.getD 88 undef=.slice (some gx) 3 gc:=hI.val 25 88 (by decide) rfl (dp 25 (by decide))
   obtain⟨og,g1,g2,-,-,-⟩:=o24
   exact wVb (v:=.int .i64 3) (w':=w) ho e4 g1 g2 (by rw[hI.size];exact Nat.lt_of_lt_of_le (by decide) hs) V24 (by simp[execOp,e3,ev,evc,V24,V25,builtin,resolve,invoke,goInt,Builtin.len_,run_underlying Tryz.underlying31]) (by rw[e2];exact go rfl (Below.refl _ _) hw rfl)
  ·obtain⟨o',e1,e2,e3,e4,e5⟩:=o27
   obtain rfl:=sOp ho e1
   have dp:=dPo e5 hdep
   have V24:a.tmps.getD 87 undef=.bool true:=hI.val 24 87 (by decide) rfl (dp 24 (by decide))
   have V26:a.tmps.getD 89 undef=.int .i64 3:=hI.val 26 89 (by decide) rfl (dp 26 (by decide))
   obtain⟨og,g1,g2,-,-,-⟩:=o24
   exact wVb (v:=.bool true) (w':=w) ho e4 g1 g2 (by rw[hI.size];exact Nat.lt_of_lt_of_le (by decide) hs) V24 (by simp[execOp,e3,ev,evc,V24,V26,x27 w,eqGuard]) (by rw[e2];exact go rfl (Below.refl _ _) hw rfl)
  ·obtain⟨o',e1,e2,e3,e4,e5⟩:=o28
   obtain rfl:=sOp ho e1
   have dp:=dPo e5 hdep
   have V24:a.tmps.getD 87 undef=.bool true:=hI.val 24 87 (by decide) rfl (dp 24 (by decide))
   have V27:a.tmps.getD 90 undef=.bool true:=hI.val 27 90 (by decide) rfl (dp 27 (by decide))
   exact wVa (v:=.bool true) (w':=w) ho e4 (by simp[execOp,e3,ev,evc,V24,V27,asBool]) (by rw[e2];exact go rfl (Below.refl _ _) hw rfl)
  ·obtain⟨o',e1,e2,e3,e4,e5⟩:=o29
   obtain rfl:=sOp ho e1
   have dp:=dPo e5 hdep
   have V28:a.tmps.getD 91 undef=.bool true:=hI.val 28 91 (by decide) rfl (dp 28 (by decide))
   exact wVa (v:=.bool true) (w':=w) ho e4 (by simp[execOp,e3,ev,evc,V28]) (by rw[e2];exact go rfl (Below.refl _ _) hw rfl)
  ·obtain⟨o',e1,e2,e3,e4,e5⟩:=o30
   obtain rfl:=sOp ho e1
   have dp:=dPo e5 hdep
   have V29:a.tmps.getD 92 undef=.bool true:=hI.val 29 92 (by decide) rfl (dp 29 (by decide))
   have U12:a.tmps.getD 12 undef=.int .i64 0:=(kp 12 (by decide)).trans u12
   obtain⟨og,g1,g2,-,-,-⟩:=o29
   exact wVb (v:=.int .i64 0) (w':=w) ho e4 g1 g2 (by rw[hI.size];exact Nat.lt_of_lt_of_le (by decide) hs) V29 (by simp[execOp,e3,ev,evc,V29,U12]) (by rw[e2];exact go rfl (Below.refl _ _) hw rfl)
  ·obtain⟨o',e1,e2,e3,e4,e5⟩:=o31
   obtain rfl:=sOp ho e1
   have dp:=dPo e5 hdep
   have V29:a.tmps.getD 92 undef=.bool true:=hI.val 29 92 (by decide) rfl (dp 29 (by decide))
   have V30:a.tmps.getD 93 undef=.int .i64 0:=hI.val 30 93 (by decide) rfl (dp 30 (by decide))
   obtain⟨og,g1,g2,-,-,-⟩:=o29
   exact wVb (v:=.bool true) (w':=w) ho e4 g1 g2 (by rw[hI.size];exact Nat.lt_of_lt_of_le (by decide) hs) V29 (by simp[execOp,e3,ev,evc,V29,V30,x31 w,eqGuard]) (by rw[e2];exact go rfl (Below.refl _ _) hw rfl)
  ·obtain⟨o',e1,e2,e3,e4,e5⟩:=o32
   obtain rfl:=sOp ho e1
   have dp:=dPo e5 hdep
   have V29:a.tmps.getD 92 undef=.bool true:=hI.val 29 92 (by decide) rfl (dp 29 (by decide))
   have V31:a.tmps.getD 94 undef=.bool true:=hI.val 31 94 (by decide) rfl (dp 31 (by decide))
   exact wVa (v:=.bool true) (w':=w) ho e4 (by simp[execOp,e3,ev,evc,V29,V31,asBool]) (by rw[e2];exact go rfl (Below.refl _ _) hw rfl)
  ·obtain⟨o',e1,e2,e3,e4,e5⟩:=o33
   obtain rfl:=sOp ho e1
   have dp:=dPo e5 hdep
   have V32:a.tmps.getD 95 undef=.bool true:=hI.val 32 95 (by decide) rfl (dp 32 (by decide))
   exact wVa (v:=.bool true) (w':=w) ho e4 (by simp[execOp,e3,ev,evc,V32]) (by rw[e2];exact go rfl (Below.refl _ _) hw rfl)
  ·obtain⟨o',e1,e2,e3,e4,e5⟩:=o34
   obtain rfl:=sOp ho e1
   have dp:=dPo e5 hdep
   have V33:a.tmps.getD 96 undef=.bool true:=hI.val 33 96 (by decide) rfl (dp 33 (by decide))
   have U15:a.tmps.getD 15 undef=.int .i64 20:=(kp 15 (by decide)).trans u15
   obtain⟨og,g1,g2,-,-,-⟩:=o33
   exact wVb (v:=.int .i64 20) (w':=w) ho e4 g1 g2 (by rw[hI.size];exact Nat.lt_of_lt_of_le (by decide) hs) V33 (by simp[execOp,e3,ev,evc,V33,U15]) (by rw[e2];exact go rfl (Below.refl _ _) hw rfl)
  ·obtain⟨o',e1,e2,e3,e4,e5⟩:=o35
   obtain rfl:=sOp ho e1
   have dp:=dPo e5 hdep
   have V33:a.tmps.getD 96 undef=.bool true:=hI.val 33 96 (by decide) rfl (dp 33 (by decide))
   have V34:a.tmps.getD 97 undef=.int .i64 20:=hI.val 34 97 (by decide) rfl (dp 34 (by decide))
   obtain⟨og,g1,g2,-,-,-⟩:=o33
   exact wVb (v:=.bool true) (w':=w) ho e4 g1 g2 (by rw[hI.size];exact Nat.lt_of_lt_of_le (by decide) hs) V33 (by simp[execOp,e3,ev,evc,V33,V34,x35 w,eqGuard]) (by rw[e2];exact go rfl (Below.refl _ _) hw rfl)
  ·obtain⟨o',e1,e2,e3,e4,e5⟩:=o36
   obtain rfl:=sOp ho e1
   have dp:=dPo e5 hdep
   have V33:a.tmps.getD 96 undef=.bool true:=hI.val 33 96 (by decide) rfl (dp 33 (by decide))
   have V35:a.tmps.getD 98 undef=.bool true:=hI.val 35 98 (by decide) rfl (dp 35 (by decide))
   exact wVa (v:=.bool true) (w':=w) ho e4 (by simp[execOp,e3,ev,evc,V33,V35,asBool]) (by rw[e2];exact go rfl (Below.refl _ _) hw rfl)
  ·obtain⟨o',e1,e2,e3,e4,e5⟩:=o37
   obtain rfl:=sOp ho e1
   have dp:=dPo e5 hdep
   have V36:a.tmps.getD 99 undef=.bool true:=hI.val 36 99 (by decide) rfl (dp 36 (by decide))
   exact wVa (v:=.bool true) (w':=w) ho e4 (by simp[execOp,e3,ev,evc,V36]) (by rw[e2];exact go rfl (Below.refl _ _) hw rfl)
  ·obtain⟨o',e1,e2,e3,e4,e5⟩:=o38
   obtain rfl:=sOp ho e1
   have dp:=dPo e5 hdep
   have V37:a.tmps.getD 100 undef=.bool true:=hI.val 37 100 (by decide) rfl (dp 37 (by decide))
   have U10:a.tmps.getD 10 undef=.slice (some gx) 3 gc:=(kp 10 (by decide)).trans u10
   obtain⟨og,g1,g2,-,-,-⟩:=o37
   exact wVb (v:=.slice (some gx) 3 gc) (w':=w) ho e4 g1 g2 (by rw[hI.size];exact Nat.lt_of_lt_of_le (by decide) hs) V37 (by simp[execOp,e3,ev,evc,V37,U10]) (by rw[e2];exact go rfl (Below.refl _ _) hw rfl)
  ·obtain⟨o',e1,e2,e3,e4,e5⟩:=o39
   obtain rfl:=sOp ho e1
   have dp:=dPo e5 hdep
   have V37:a.tmps.getD 100 undef=.bool true:=hI.val 37 100 (by decide) rfl (dp 37 (by decide))
   have V38:a.tmps.getD 101 undef=.slice (some gx) 3 gc:=hI.val 38 101 (by decide) rfl (dp 38 (by decide))
   obtain⟨og,g1,g2,-,-,-⟩:=o37
   exact wVb (v:=.pointer (some (gx.add 0))) (w':=w) ho e4 g1 g2 (by rw[hI.size];exact Nat.lt_of_lt_of_le (by decide) hs) V37 (by simp[execOp,e3,ev,evc,V37,V38,x39 w]) (by rw[e2];exact go rfl (Below.refl _ _) hw rfl)
  ·obtain⟨o',e1,e2,e3,e4,e5⟩:=o40
   obtain rfl:=sOp ho e1
   have dp:=dPo e5 hdep
   have V37:a.tmps.getD 100 undef=.bool true:=hI.val 37 100 (by decide) rfl (dp 37 (by decide))
   have V39:a.tmps.getD 102 undef=.pointer (some (gx.add 0)):=hI.val 39 102 (by decide) rfl (dp 39 (by decide))
   obtain⟨og,g1,g2,-,-,-⟩:=o37
   exact wVb (v:=.slice qa rm1 qc) (w':=w) ho e4 g1 g2 (by rw[hI.size];exact Nat.lt_of_lt_of_le (by decide) hs) V37 (by simp[execOp,e3,ev,evc,V37,V39,x40 w hw]) (by rw[e2];exact go rfl (Below.refl _ _) hw rfl)
  ·obtain⟨o',e1,e2,e3,e4,e5⟩:=o41
   obtain rfl:=sOp ho e1
   have dp:=dPo e5 hdep
   have V37:a.tmps.getD 100 undef=.bool true:=hI.val 37 100 (by decide) rfl (dp 37 (by decide))
   have U10:a.tmps.getD 10 undef=.slice (some gx) 3 gc:=(kp 10 (by decide)).trans u10
   obtain⟨og,g1,g2,-,-,-⟩:=o37
   exact wVb (v:=.slice (some gx) 3 gc) (w':=w) ho e4 g1 g2 (by rw[hI.size];exact Nat.lt_of_lt_of_le (by decide) hs) V37 (by simp[execOp,e3,ev,evc,V37,U10]) (by rw[e2];exact go rfl (Below.refl _ _) hw rfl)
  ·obtain⟨o',e1,e2,e3,e4,e5⟩:=o42
   obtain rfl:=sOp ho e1
   have dp:=dPo e5 hdep
   have V37:a.tmps.getD 100 undef=.bool true:=hI.val 37 100 (by decide) rfl (dp 37 (by decide))
   have V41:a.tmps.getD 104 undef=.slice (some gx) 3 gc:=hI.val 41 104 (by decide) rfl (dp 41 (by decide))
   obtain⟨og,g1,g2,-,-,-⟩:=o37
   exact wVb (v:=.pointer (some (gx.add 1))) (w':=w) ho e4 g1 g2 (by rw[hI.size];exact Nat.lt_of_lt_of_le (by decide) hs) V37 (by simp[execOp,e3,ev,evc,V37,V41,x42 w]) (by rw[e2];exact go rfl (Below.refl _ _) hw rfl)
  ·obtain⟨o',e1,e2,e3,e4,e5⟩:=o43
   obtain rfl:=sOp ho e1
   have dp:=dPo e5 hdep
   have V37:a.tmps.getD 100 undef=.bool true:=hI.val 37 100 (by decide) rfl (dp 37 (by decide))
   have V42:a.tmps.getD 105 undef=.pointer (some (gx.add 1)):=hI.val 42 105 (by decide) rfl (dp 42 (by decide))
   obtain⟨og,g1,g2,-,-,-⟩:=o37
   exact wVb (v:=.slice qb rm2 qd) (w':=w) ho e4 g1 g2 (by rw[hI.size];exact Nat.lt_of_lt_of_le (by decide) hs) V37 (by simp[execOp,e3,ev,evc,V37,V42,x43 w hw]) (by rw[e2];exact go rfl (Below.refl _ _) hw rfl)
  ·obtain⟨o',e1,e2,e3,e4,e5⟩:=o44
   obtain rfl:=sOp ho e1
   have dp:=dPo e5 hdep
   have V37:a.tmps.getD 100 undef=.bool true:=hI.val 37 100 (by decide) rfl (dp 37 (by decide))
   have V40:a.tmps.getD 103 undef=.slice qa rm1 qc:=hI.val 40 103 (by decide) rfl (dp 40 (by decide))
   have V43:a.tmps.getD 106 undef=.slice qb rm2 qd:=hI.val 43 106 (by decide) rfl (dp 43 (by decide))
   obtain⟨og,g1,g2,-,-,-⟩:=o37
   refine wCb (f:=14) (args:=#[.slice qa rm1 qc,.slice qb rm2 qd]) ho e4 g1 g2 (by rw[hI.size];exact Nat.lt_of_lt_of_le (by decide) hs) V37 (by simp[execOp,e3,resolve,invoke,Deferred.ofValue,r14,ev,evf,evc,V37,V40,V43]) ((x44 w hw).mono ?_)
   rintro e W' ⟨rfl,hb6,hs6⟩
   refine⟨_,rfl,?_⟩
   rw[e2]
   exact go rfl hb6 hs6 rfl
  ·obtain⟨o',e1,e2,e3,e4,e5⟩:=o45
   obtain rfl:=sOp ho e1
   have dp:=dPo e5 hdep
   have V37:a.tmps.getD 100 undef=.bool true:=hI.val 37 100 (by decide) rfl (dp 37 (by decide))
   have V44:a.tmps.getD 107 undef=.bool false:=hI.val 44 107 (by decide) rfl (dp 44 (by decide))
   obtain⟨og,g1,g2,-,-,-⟩:=o37
   exact wVb (v:=.bool true) (w':=w) ho e4 g1 g2 (by rw[hI.size];exact Nat.lt_of_lt_of_le (by decide) hs) V37 (by simp[execOp,e3,ev,evc,V37,V44,Op.unary]) (by rw[e2];exact go rfl (Below.refl _ _) hw rfl)
  ·obtain⟨o',e1,e2,e3,e4,e5⟩:=o46
   obtain rfl:=sOp ho e1
   have dp:=dPo e5 hdep
   have V37:a.tmps.getD 100 undef=.bool true:=hI.val 37 100 (by decide) rfl (dp 37 (by decide))
   have V45:a.tmps.getD 108 undef=.bool true:=hI.val 45 108 (by decide) rfl (dp 45 (by decide))
   exact wVa (v:=.bool true) (w':=w) ho e4 (by simp[execOp,e3,ev,evc,V37,V45,asBool]) (by rw[e2];exact go rfl (Below.refl _ _) hw rfl)
  ·obtain⟨o',e1,e2,e3,e4,e5⟩:=o47
   obtain rfl:=sOp ho e1
   have dp:=dPo e5 hdep
   have V46:a.tmps.getD 109 undef=.bool true:=hI.val 46 109 (by decide) rfl (dp 46 (by decide))
   exact wVa (v:=.bool true) (w':=w) ho e4 (by simp[execOp,e3,ev,evc,V46]) (by rw[e2];exact go rfl (Below.refl _ _) hw rfl)
 ·intro l a w hall hI
  have all:∀ j,j<48→l j=true:=fun j hj=>hall j (by rw[hsz];exact hj)
  exact fin a w hI.size hI.defers hI.kept hI.world.1 (fun i d hi hD=>hI.val i d hi hD (all i hi))
end
end Go.Proofs.YthliomlmhfjhnaaGreat
