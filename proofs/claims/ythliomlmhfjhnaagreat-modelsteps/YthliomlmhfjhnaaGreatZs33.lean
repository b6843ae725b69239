/- Texts put together. -/
import Derived.Test.YthliomlmhfjhnaaGreatZs32
namespace Go.Proofs.YthliomlmhfjhnaaGreat
set_option maxRecDepth 20000
set_option maxHeartbeats 16000000
open Go.ChangeShapes Go.WideShapes Go.ChangeAt Go.RowKit
set_option linter.unusedVariables false
set_option linter.unusedSimpArgs false
theorem mdneed_yes (n:Int)(w:World):Calls Tryz.prog 56 #[.bool true,.int .i64 n] w fun e w'=>e=.returned (.tuple #[])∧w'=w:=by
 have hnot:∀ (x:Bool) (w:World),(Op.unary .not (.bool x)).run Tryz.prog w=.ok (.bool (!x)) w:=fun _ _=>rfl
 go_enter Tryz.func56,Tryz.ntmps56
 go_wp2
 go_end0
 exact⟨rfl,rfl⟩
theorem mdneed_no (n:Int)(w:World):Calls Tryz.prog 56 #[.bool false,.int .i64 n] w fun e w'=>e=.panicked [{ v:=.iface 35 (.int .i64 n),recovered:=false }]∧w'=w:=by
 have hnot:∀ (x:Bool) (w:World),(Op.unary .not (.bool x)).run Tryz.prog w=.ok (.bool (!x)) w:=fun _ _=>rfl
 go_enter Tryz.func56,Tryz.ntmps56
 go_wp2
 exact⟨rfl,rfl,rfl⟩
theorem mdmust_yes (a:Option Addr)(n c:Nat)(w:World):Calls Tryz.prog 48 #[.slice a n c,.int .i64 0] w fun e w'=>e=.returned (.slice a n c)∧w'=w:=by
 have kn:=mdneed_yes 0
 go_enter Tryz.func48,Tryz.ntmps48
 go_wp2_with (go_at_call 56;refine (kn _).mono ?_;rintro e w' ⟨rfl,rfl⟩)
 go_ret
 exact⟨rfl,rfl⟩
theorem mdcaught_nil (w:World):Calls Tryz.prog 28 #[.nilIface] w fun e w'=>e=.returned (.int .i64 0)∧w'=w:=by
 go_enter Tryz.func28,Tryz.ntmps28
 go_wp2
 go_ret
 exact⟨rfl,rfl⟩
theorem mdcaught_err (n:Int)(w:World):Calls Tryz.prog 28 #[.iface 35 (.int .i64 n)] w fun e w'=>e=.returned (.int .i64 n)∧w'=w:=by
 have ha:∀ W,(Instr.typeAssert (.iface 35 (.int .i64 n)) 20 35 true).run Tryz.prog W=.ok (.tuple #[.int .i64 n,.bool true]) W:=fun W=>by kernel_rfl
 have he:∀ W,(binOp .eql 20 (.iface 35 (.int .i64 n)) .nilIface).run Tryz.prog W=.ok (.bool false) W:=fun W=>by kernel_rfl
 go_enter Tryz.func28,Tryz.ntmps28
 go_wp2
 go_ret
 exact⟨rfl,rfl⟩
theorem catch_panic27 (p:Addr)(x n:Int)(older:List PanicEntry)(w:World)(hc:w.cell? p=some (.int .i64 x))(hz:w.frozen? p=false) :
  CallsD Tryz.prog 27 #[.pointer (some p)] (.panicking ({ v:=.iface 35 (.int .i64 n),recovered:=false } :: older)) w fun e u' w' =>
   e=.returned (.tuple #[])∧u'=.panicking ({ v:=.iface 35 (.int .i64 n),recovered:=true } :: older)∧w'=w.setCell p (.int .i64 n):=by
 refine callsD_of_wpS Tryz.func27 rfl fun c₀ cs hu=>?_
 have r22:∀ args w,(callFunc 28 args).run Tryz.prog w=.ok (.enter 28 args) w:=eNo Tryz.func28 (by kernel_rfl) rfl
 apply wpS_region
 simp[wpOpsS,go_sem,recoverD,hu,Tryz.ntmps27,Exit.thenS,r22,Oper.upon]
 refine (mdcaught_err n w).mono ?_
 rintro e w' ⟨rfl,rfl⟩
 simp[wpOpsS,go_sem,hc,hz,bodyPostS,results,Tryz.results27,Oper.upon]
theorem catch_idle27 (p:Addr)(x:Int)(w:World)(hc:w.cell? p=some (.int .i64 x))(hz:w.frozen? p=false) :
  CallsD Tryz.prog 27 #[.pointer (some p)] .returning w fun e u' w'=>e=.returned (.tuple #[])∧u'=.returning∧w'=w.setCell p (.int .i64 0):=by
 refine callsD_of_wpS Tryz.func27 rfl fun c₀ cs hu=>?_
 have r22:∀ args w,(callFunc 28 args).run Tryz.prog w=.ok (.enter 28 args) w:=eNo Tryz.func28 (by kernel_rfl) rfl
 apply wpS_region
 simp[wpOpsS,go_sem,recoverD,hu,Tryz.ntmps27,Exit.thenS,r22,Oper.upon]
 refine (mdcaught_nil w).mono ?_
 rintro e w' ⟨rfl,rfl⟩
 cases c₀
 simp_all [wpOpsS,go_sem,hc,hz,bodyPostS,results,Tryz.results27,Oper.upon]
theorem mdmustM_yes (d h l v u x t n:Int)(E L N O:SL)(w:World):Calls Tryz.prog 46 #[.agg #[.int .i64 d,.int .i64 h,.int .i64 l,.int .i64 v,.int .i64 u,.int .i64 x,.int .i64 t,.int .i64 n,.slice E.a E.n E.c,.slice L.a L.n L.c,.slice N.a N.n N.c,.slice O.a O.n O.c],.int .i64 0] w fun e w'=>e=.returned (.agg #[.int .i64 d,.int .i64 h,.int .i64 l,.int .i64 v,.int .i64 u,.int .i64 x,.int .i64 t,.int .i64 n,.slice E.a E.n E.c,.slice L.a L.n L.c,.slice N.a N.n N.c,.slice O.a O.n O.c])∧Below w.heap.size w w':=by
 have kn:=mdneed_yes 0
 have hb:=bNw (bNw (Below.refl w.heap.size w) (.cells #[.int .i64 d,.int .i64 h,.int .i64 l,.int .i64 v,.int .i64 u,.int .i64 x,.int .i64 t,.int .i64 n,.slice E.a E.n E.c,.slice L.a L.n L.c,.slice N.a N.n N.c,.slice O.a O.n O.c] 27)) (.cells #[.int .i64 0,.int .i64 0,.int .i64 0,.int .i64 0,.int .i64 0,.int .i64 0,.int .i64 0,.int .i64 0,.slice none 0 0,.slice none 0 0,.slice none 0 0,.slice none 0 0] 27)
 have q1:Blk 27 ((w.alloc (.cells #[.int .i64 d,.int .i64 h,.int .i64 l,.int .i64 v,.int .i64 u,.int .i64 x,.int .i64 t,.int .i64 n,.slice E.a E.n E.c,.slice L.a L.n L.c,.slice N.a N.n N.c,.slice O.a O.n O.c] 27)).alloc (.cells #[.int .i64 d,.int .i64 h,.int .i64 l,.int .i64 v,.int .i64 u,.int .i64 x,.int .i64 t,.int .i64 n,.slice E.a E.n E.c,.slice L.a L.n L.c,.slice N.a N.n N.c,.slice O.a O.n O.c] 27)) (w.heap.size+1) #[.int .i64 d,.int .i64 h,.int .i64 l,.int .i64 v,.int .i64 u,.int .i64 x,.int .i64 t,.int .i64 n,.slice E.a E.n E.c,.slice L.a L.n L.c,.slice N.a N.n N.c,.slice O.a O.n O.c]:=Blk.new_at 27 (w.alloc _) _ _ (by simp)
 have hb':=bNw (bNw (Below.refl w.heap.size w) (.cells #[.int .i64 d,.int .i64 h,.int .i64 l,.int .i64 v,.int .i64 u,.int .i64 x,.int .i64 t,.int .i64 n,.slice E.a E.n E.c,.slice L.a L.n L.c,.slice N.a N.n N.c,.slice O.a O.n O.c] 27)) (.cells #[.int .i64 d,.int .i64 h,.int .i64 l,.int .i64 v,.int .i64 u,.int .i64 x,.int .i64 t,.int .i64 n,.slice E.a E.n E.c,.slice L.a L.n L.c,.slice N.a N.n N.c,.slice O.a O.n O.c] 27)
 have HQ:=hdn q1
 clear q1 hb
 go_enter Tryz.func46,Tryz.ntmps46
 go_wp2_with (go_at_call 56;refine (kn _).mono ?_;rintro e w' ⟨rfl,rfl⟩)
 obtain⟨y0,y1,y2,y3,y4,y5,y6,y7,y8,y9,y10,y11⟩:=HQ.out.c12
 refine bodyPost_ret (v:=.agg #[.int .i64 d,.int .i64 h,.int .i64 l,.int .i64 v,.int .i64 u,.int .i64 x,.int .i64 t,.int .i64 n,.slice E.a E.n E.c,.slice L.a L.n L.c,.slice N.a N.n N.c,.slice O.a O.n O.c]) ?_ rfl ⟨rfl,hb'⟩
 simp[results,Tryz.results46,go_sem,y0,y1,y2,y3,y4,y5,y6,y7,y8,y9,y10,y11]
theorem mdmustM_no (d h l v u x t n:Int)(E L N O:SL)(r:Int)(h':¬r=0)(w:World):Calls Tryz.prog 46 #[.agg #[.int .i64 d,.int .i64 h,.int .i64 l,.int .i64 v,.int .i64 u,.int .i64 x,.int .i64 t,.int .i64 n,.slice E.a E.n E.c,.slice L.a L.n L.c,.slice N.a N.n N.c,.slice O.a O.n O.c],.int .i64 r] w fun e w'=>e=.panicked [{ v:=.iface 35 (.int .i64 r),recovered:=false }]∧Below w.heap.size w w':=by
 have kn:=mdneed_no r
 have hr:(r==0)=false:=by simp[h']
 have hb:=bNw (bNw (Below.refl w.heap.size w) (.cells #[.int .i64 d,.int .i64 h,.int .i64 l,.int .i64 v,.int .i64 u,.int .i64 x,.int .i64 t,.int .i64 n,.slice E.a E.n E.c,.slice L.a L.n L.c,.slice N.a N.n N.c,.slice O.a O.n O.c] 27)) (.cells #[.int .i64 0,.int .i64 0,.int .i64 0,.int .i64 0,.int .i64 0,.int .i64 0,.int .i64 0,.int .i64 0,.slice none 0 0,.slice none 0 0,.slice none 0 0,.slice none 0 0] 27)
 go_enter Tryz.func46,Tryz.ntmps46
 go_wp2_with (go_at_call 56;refine (kn _).mono ?_;rintro e w' ⟨rfl,rfl⟩)
 exact⟨rfl,rfl,hb⟩
theorem mdmustA_yes (R S:Int)(L:SL)(w:World):Calls Tryz.prog 54 #[.agg #[.int .i64 R,.int .i64 S,.slice L.a L.n L.c],.int .i64 0] w fun e w'=>e=.returned (.agg #[.int .i64 R,.int .i64 S,.slice L.a L.n L.c])∧Below w.heap.size w w':=by
 have kn:=mdneed_yes 0
 have hb:=bNw (bNw (Below.refl w.heap.size w) (.cells #[.int .i64 R,.int .i64 S,.slice L.a L.n L.c] 30)) (.cells #[.int .i64 0,.int .i64 0,.slice none 0 0] 30)
 have q1:Blk 30 ((w.alloc (.cells #[.int .i64 R,.int .i64 S,.slice L.a L.n L.c] 30)).alloc (.cells #[.int .i64 R,.int .i64 S,.slice L.a L.n L.c] 30)) (w.heap.size+1) #[.int .i64 R,.int .i64 S,.slice L.a L.n L.c]:=Blk.new_at 30 (w.alloc _) _ _ (by simp)
 have hb':=bNw (bNw (Below.refl w.heap.size w) (.cells #[.int .i64 R,.int .i64 S,.slice L.a L.n L.c] 30)) (.cells #[.int .i64 R,.int .i64 S,.slice L.a L.n L.c] 30)
 have HQ:=hdn q1
 clear q1 hb
 go_enter Tryz.func54,Tryz.ntmps54
 go_wp2_with (go_at_call 56;refine (kn _).mono ?_;rintro e w' ⟨rfl,rfl⟩)
 obtain⟨y0,y1,y2⟩:=HQ.out.c3
 refine bodyPost_ret (v:=.agg #[.int .i64 R,.int .i64 S,.slice L.a L.n L.c]) ?_ rfl ⟨rfl,hb'⟩
 simp[results,Tryz.results54,go_sem,y0,y1,y2]
theorem mdmustA_no (R S:Int)(L:SL)(r:Int)(h':¬r=0)(w:World):Calls Tryz.prog 54 #[.agg #[.int .i64 R,.int .i64 S,.slice L.a L.n L.c],.int .i64 r] w fun e w'=>e=.panicked [{ v:=.iface 35 (.int .i64 r),recovered:=false }]∧Below w.heap.size w w':=by
 have kn:=mdneed_no r
 have hr:(r==0)=false:=by simp[h']
 have hb:=bNw (bNw (Below.refl w.heap.size w) (.cells #[.int .i64 R,.int .i64 S,.slice L.a L.n L.c] 30)) (.cells #[.int .i64 0,.int .i64 0,.slice none 0 0] 30)
 go_enter Tryz.func54,Tryz.ntmps54
 go_wp2_with (go_at_call 56;refine (kn _).mono ?_;rintro e w' ⟨rfl,rfl⟩)
 exact⟨rfl,rfl,hb⟩
def Kept2 (N:Nat)(D:Nat→Option Nat)(a0:Act)(l:Nat→Bool)(a:Act):Prop:=∀ s,(∀ i,i<N→l i=true→D i≠some s)→a.tmps.getD s undef=a0.tmps.getD s undef
theorem kept2_start (N:Nat)(D:Nat→Option Nat)(a0:Act):Kept2 N D a0 (fun _=>false) a0:=fun _ _=>rfl
theorem Kept2.put {N:Nat}{D:Nat→Option Nat}{a0:Act}{l:Nat→Bool}{a:Act}(h:Kept2 N D a0 l a){i d:Nat}{v:Value}(hD:D i=some d)(hd:d<a.tmps.size)(hi:i<N:=by decide):Kept2 N D a0 (fun j=>l j || j==i) (a.put (some d) v):=fun s hs=>by
 rw[get_put a d v s hd,if_neg (fun e=>hs i hi (by simp) (by rw[e];exact hD))]
 exact h s (fun j hj hl=>hs j hj (by simp[hl]))
theorem run_field23 (b f:Nat)(hf:f<8)(w:World):(Instr.fieldAt 23 (.pointer (some ⟨b,0,none⟩)) f).run Tryz.prog w=.ok (.pointer (some ⟨b,f,none⟩)) w:=by
 rcases (show f=0∨f=1∨f=2∨f=3∨f=4∨f=5∨f=6∨f=7 by omega) with rfl|rfl|rfl|rfl|rfl|rfl|rfl|rfl<;>go_simp
def lhD (i:Nat):Option Nat:=match i with|0=>some 101|1=>some 102|2=>some 103|3=>some 104|4=>some 105|5=>some 106|6=>some 107|7=>some 108|8=>some 109|9=>some 110|10=>some 111|11=>some 112|12=>some 113|13=>some 114|14=>some 115|15=>some 116|16=>some 117|17=>some 10|18=>some 11|19=>some 12|_=>none
theorem lhD_inj:∀ i,i<20→∀ j,j<20→lhD i=lhD j→lhD i≠none→i=j:=by decide
theorem lhD_lt:∀ i,i<20→∀ d,lhD i=some d→d<118:=by
 intro i hi d h
 have:∀ i,i<20→(lhD i).all (fun d=>decide (d<118))=true:=by decide
 have:=this i hi
 rw[h] at this
 simpa using this
def lhF (cb D0 qc kc vc:Nat)(qa ka va:Option Addr)(hh p:Int)(OQ OK:List Int)(i:Nat)(q:Value)(w:World):Prop:=match i with
 | 0=>q=.slice qa D0 qc
 | 1=>q=.pointer (some ⟨cb,1,none⟩)
 | 2=>q=.int .i64 hh
 | 3=>q=.int .i64 p
 | 4=>∃ b bc,q=.tuple #[.slice b D0 bc,.int .i64 0]∧Reads .i64 w b D0 OQ∧D0≤bc
 | 5=>∃ b bc,q=.slice b D0 bc∧Reads .i64 w b D0 OQ∧D0≤bc
 | 6=>q=.int .i64 0
 | 7=>∃ b bc,q=.slice b D0 bc∧Reads .i64 w b D0 OQ∧D0≤bc
 | 8=>q=.slice ka D0 kc
 | 9=>q=.pointer (some ⟨cb,1,none⟩)
 | 10=>q=.int .i64 hh
 | 11=>q=.int .i64 p
 | 12=>∃ b bc,q=.tuple #[.slice b D0 bc,.int .i64 0]∧Reads .i64 w b D0 OK∧D0≤bc
 | 13=>∃ b bc,q=.slice b D0 bc∧Reads .i64 w b D0 OK∧D0≤bc
 | 14=>q=.int .i64 0
 | 15=>∃ b bc,q=.slice b D0 bc∧Reads .i64 w b D0 OK∧D0≤bc
 | 16=>q=.slice va D0 vc
 | 17=>∃ b bc,q=.slice b D0 bc∧Reads .i64 w b D0 OQ∧D0≤bc
 | 18=>∃ b bc,q=.slice b D0 bc∧Reads .i64 w b D0 OK∧D0≤bc
 | 19=>q=.slice va D0 vc
 | _=>True
theorem lhF_below {cb D0 qc kc vc:Nat}{qa ka va:Option Addr}{hh p:Int}{OQ OK:List Int}{i:Nat}{q:Value}{w w':World}(h:lhF cb D0 qc kc vc qa ka va hh p OQ OK i q w)(hb:Below w.heap.size w w'):lhF cb D0 qc kc vc qa ka va hh p OQ OK i q w':=by
 unfold lhF at h ⊢
 split
 ·exact h
 ·exact h
 ·exact h
 ·exact h
 ·obtain⟨b,bc,h1,h2,h3⟩:=h;exact⟨b,bc,h1,h2.below hb,h3⟩
 ·obtain⟨b,bc,h1,h2,h3⟩:=h;exact⟨b,bc,h1,h2.below hb,h3⟩
 ·exact h
 ·obtain⟨b,bc,h1,h2,h3⟩:=h;exact⟨b,bc,h1,h2.below hb,h3⟩
 ·exact h
 ·exact h
 ·exact h
 ·exact h
 ·obtain⟨b,bc,h1,h2,h3⟩:=h;exact⟨b,bc,h1,h2.below hb,h3⟩
 ·obtain⟨b,bc,h1,h2,h3⟩:=h;exact⟨b,bc,h1,h2.below hb,h3⟩
 ·exact h
 ·obtain⟨b,bc,h1,h2,h3⟩:=h;exact⟨b,bc,h1,h2.below hb,h3⟩
 ·exact h
 ·obtain⟨b,bc,h1,h2,h3⟩:=h;exact⟨b,bc,h1,h2.below hb,h3⟩
 ·obtain⟨b,bc,h1,h2,h3⟩:=h;exact⟨b,bc,h1,h2.below hb,h3⟩
 ·exact h
 ·trivial
theorem lh_region {id:Nat}{ops:Array Oper}{Q:Exit→Act→World→Prop}{a0:Act}{w0:World}(cb D0 qc kc vc:Nat)(qa ka va:Option Addr)(hh p:Int)(OQ OK:List Int)(S:World→Prop)(hlow:lowB ops=true)(hsz:ops.size=20)
  (o0:OpIn ops 0 (some 101) (.move (.tmp 10)) none []) (o1:OpIn ops 1 (some 102) (.fieldAddr 23 (.tmp 13) 1) none []) (o2:OpIn ops 2 (some 103) (.load 3 (.tmp 102)) none [1]) (o3:OpIn ops 3 (some 104) (.move (.tmp 3)) none []) (o4:OpIn ops 4 (some 105) (.call { callee:=.value (.func 95),args:=#[.tmp 101,.tmp 103,.tmp 104],argTypes:=#[34,3,3] }) none [0,2,3]) (o5:OpIn ops 5 (some 106) (.extract (.tmp 105) 0) none [4]) (o6:OpIn ops 6 (some 107) (.extract (.tmp 105) 1) none [4]) (o7:OpIn ops 7 (some 108) (.call { callee:=.value (.func 48),args:=#[.tmp 106,.tmp 107],argTypes:=#[34,35] }) none [5,6]) (o8:OpIn ops 8 (some 109) (.move (.tmp 11)) none []) (o9:OpIn ops 9 (some 110) (.fieldAddr 23 (.tmp 13) 1) none []) (o10:OpIn ops 10 (some 111) (.load 3 (.tmp 110)) none [9]) (o11:OpIn ops 11 (some 112) (.move (.tmp 3)) none []) (o12:OpIn ops 12 (some 113) (.call { callee:=.value (.func 95),args:=#[.tmp 109,.tmp 111,.tmp 112],argTypes:=#[34,3,3] }) none [8,10,11]) (o13:OpIn ops 13 (some 114) (.extract (.tmp 113) 0) none [12]) (o14:OpIn ops 14 (some 115) (.extract (.tmp 113) 1) none [12]) (o15:OpIn ops 15 (some 116) (.call { callee:=.value (.func 48),args:=#[.tmp 114,.tmp 115],argTypes:=#[34,35] }) none [13,14]) (o16:OpIn ops 16 (some 117) (.move (.tmp 12)) none []) (o17:OpIn ops 17 (some 10) (.assign (.tmp 108)) none [0,7]) (o18:OpIn ops 18 (some 11) (.assign (.tmp 116)) none [8,15]) (o19:OpIn ops 19 (some 12) (.assign (.tmp 117)) none [16])
  (hS:S w0.drew)
  (x1:∀ w,(Instr.fieldAt 23 (.pointer (some ⟨cb,0,none⟩)) 1).run Tryz.prog w=.ok (.pointer (some ⟨cb,1,none⟩)) w)
  (x2:∀ w,S w→(Instr.loadAt 3 (.pointer (some ⟨cb,1,none⟩))).run Tryz.prog w=.ok (.int .i64 hh) w)
  (x4:∀ w,S w→Calls Tryz.prog 95 #[.slice qa D0 qc,.int .i64 hh,.int .i64 p] w fun e w'=>∃ b bc,e=.returned (.tuple #[.slice b D0 bc,.int .i64 0])∧Reads .i64 w' b D0 OQ∧D0≤bc∧Below w.heap.size w w'∧S w')
  (x7:True)
  (x9:∀ w,(Instr.fieldAt 23 (.pointer (some ⟨cb,0,none⟩)) 1).run Tryz.prog w=.ok (.pointer (some ⟨cb,1,none⟩)) w)
  (x10:∀ w,S w→(Instr.loadAt 3 (.pointer (some ⟨cb,1,none⟩))).run Tryz.prog w=.ok (.int .i64 hh) w)
  (x12:∀ w,S w→Calls Tryz.prog 95 #[.slice ka D0 kc,.int .i64 hh,.int .i64 p] w fun e w'=>∃ b bc,e=.returned (.tuple #[.slice b D0 bc,.int .i64 0])∧Reads .i64 w' b D0 OK∧D0≤bc∧Below w.heap.size w w'∧S w')
  (x15:True)
  (u3:a0.tmps.getD 3 undef=.int .i64 p)
  (u10:a0.tmps.getD 10 undef=.slice qa D0 qc)
  (u11:a0.tmps.getD 11 undef=.slice ka D0 kc)
  (u12:a0.tmps.getD 12 undef=.slice va D0 vc)
  (u13:a0.tmps.getD 13 undef=.pointer (some ⟨cb,0,none⟩))
  (hs:118≤a0.tmps.size)
  (fin:∀ a w,a.tmps.size=a0.tmps.size→a.defers=a0.defers→(∀ s,(∀ i,i<20→lhD i≠some s)→a.tmps.getD s undef=a0.tmps.getD s undef)→S w→(∀ i d,i<20→lhD i=some d→lhF cb D0 qc kc vc qa ka va hh p OQ OK i (a.tmps.getD d undef) w)→Q .normal a w):(Code.region id ops true).wp Tryz.prog Q a0 w0:=by
 have r48:∀ args w,(callFunc 48 args).run Tryz.prog w=.ok (.enter 48 args) w:=eNo Tryz.func48 (by kernel_rfl) rfl
 have r95:∀ args w,(callFunc 95 args).run Tryz.prog w=.ok (.enter 95 args) w:=eNo Tryz.func95 (by kernel_rfl) rfl
 refine wRi (by kernel_rfl) hlow (Inv 20 lhD a0 (fun l a w=>S w∧Kept2 20 lhD a0 l a) (fun _=>lhF cb D0 qc kc vc qa ka va hh p OQ OK)) (Inv.start ⟨hS,kept2_start _ _ _⟩) ?_ ?_
 ·intro l i o a w ho hl hcl hdep hI
  have hi:i<20:=by rw[←hsz];exact (Array.getElem?_eq_some_iff.1 ho).1
  have ev:∀ (s:Nat),a.eval (.tmp s)=a.tmps.getD s undef:=fun _=>rfl
  have evf:∀ f,a.eval (.func f)=.func (.func f) #[] #[]:=fun _=>rfl
  have evc:∀ c:Value,a.eval (.const c)=c:=fun _=>rfl
  have inj:∀ d,lhD i=some d→∀ j d',j<20→lhD j=some d'→j≠i→d'≠d:=fun d hd j d' hj hd' hne e=>hne (lhD_inj j hj i hi (by rw[hd',hd,e]) (by rw[hd'];simp))
  have kp:∀ s,(∀ i,i<20→lhD i≠some s)→a.tmps.getD s undef=a0.tmps.getD s undef:=hI.kept
  have hw:S w:=hI.world.1
  have k2:=hI.world.2
  have ex0:=hI.world.2
  have go:∀ {d:Nat}{v:Value}{w':World},lhD i=some d→Below w.heap.size w w'→S w'→lhF cb D0 qc kc vc qa ka va hh p OQ OK i v w'→Inv 20 lhD a0 (fun l a w=>S w∧Kept2 20 lhD a0 l a) (fun _=>lhF cb D0 qc kc vc qa ka va hh p OQ OK) (fun j=>l j || j==i) (a.put (some d) v) w':=by
   intro d v w' hD hb hS' hF
   exact hI.put hi hD (Nat.lt_of_lt_of_le (lhD_lt i hi d hD) hs) (inj d hD) ⟨hS',k2.put hD (by rw[hI.size];exact Nat.lt_of_lt_of_le (lhD_lt i hi d hD) hs) hi⟩ hF (fun j u _ _ _ hf=>lhF_below hf hb)
  rcases (show i=0∨i=1∨i=2∨i=3∨i=4∨i=5∨i=6∨i=7∨i=8∨i=9∨i=10∨i=11∨i=12∨i=13∨i=14∨i=15∨i=16∨i=17∨i=18∨i=19 by omega) with rfl|rfl|rfl|rfl|rfl|rfl|rfl|rfl|rfl|rfl|rfl|rfl|rfl|rfl|rfl|rfl|rfl|rfl|rfl|rfl
  ·obtain⟨o',e1,e2,e3,e4,e5⟩:=o0
   obtain rfl:=sOp ho e1
   have dp:=dPo e5 hdep
   have U10:a.tmps.getD 10 undef=.slice qa D0 qc:=(k2 10 (fun j hj hjl e=>by
    obtain rfl:=lhD_inj j hj 17 (by decide) (e.trans rfl) (by rw[e];simp)
    have y0:=hcl.dep' o17 hjl 0 (by decide)
    rw[hl] at y0
    cases y0)).trans u10
   exact wVa (v:=.slice qa D0 qc) (w':=w) ho e4 (by simp[execOp,e3,ev,evc,U10]) (by rw[e2];exact go rfl (Below.refl _ _) hw rfl)
  ·obtain⟨o',e1,e2,e3,e4,e5⟩:=o1
   obtain rfl:=sOp ho e1
   have dp:=dPo e5 hdep
   have U13:a.tmps.getD 13 undef=.pointer (some ⟨cb,0,none⟩):=(kp 13 (by decide)).trans u13
   exact wVa (v:=.pointer (some ⟨cb,1,none⟩)) (w':=w) ho e4 (by simp[execOp,e3,ev,evc,U13,x1 w]) (by rw[e2];exact go rfl (Below.refl _ _) hw rfl)
  ·obtain⟨o',e1,e2,e3,e4,e5⟩:=o2
   obtain rfl:=sOp ho e1
   have dp:=dPo e5 hdep
   have V1:a.tmps.getD 102 undef=.pointer (some ⟨cb,1,none⟩):=hI.val 1 102 (by decide) rfl (dp 1 (by decide))
   exact wVa (v:=.int .i64 hh) (w':=w) ho e4 (by simp[execOp,e3,ev,evc,V1,x2 w hw]) (by rw[e2];exact go rfl (Below.refl _ _) hw rfl)
  ·obtain⟨o',e1,e2,e3,e4,e5⟩:=o3
   obtain rfl:=sOp ho e1
   have dp:=dPo e5 hdep
   have U3:a.tmps.getD 3 undef=.int .i64 p:=(kp 3 (by decide)).trans u3
   exact wVa (v:=.int .i64 p) (w':=w) ho e4 (by simp[execOp,e3,ev,evc,U3]) (by rw[e2];exact go rfl (Below.refl _ _) hw rfl)
  ·obtain⟨o',e1,e2,e3,e4,e5⟩:=o4
   obtain rfl:=sOp ho e1
   have dp:=dPo e5 hdep
   have V0:a.tmps.getD 101 undef=.slice qa D0 qc:=hI.val 0 101 (by decide) rfl (dp 0 (by decide))
   have V2:a.tmps.getD 103 undef=.int .i64 hh:=hI.val 2 103 (by decide) rfl (dp 2 (by decide))
   have V3:a.tmps.getD 104 undef=.int .i64 p:=hI.val 3 104 (by decide) rfl (dp 3 (by decide))
   refine wCa (f:=95) (args:=#[.slice qa D0 qc,.int .i64 hh,.int .i64 p]) ho e4 (by simp[execOp,e3,resolve,invoke,Deferred.ofValue,r95,ev,evf,evc,V0,V2,V3]) ((x4 w hw).mono ?_)
   rintro e W' ⟨b,bc,rfl,hr6,hz6,hb6,hs6⟩
   refine⟨_,rfl,?_⟩
   rw[e2]
   exact go rfl hb6 hs6 ⟨b,bc,rfl,hr6,hz6⟩
  ·obtain⟨o',e1,e2,e3,e4,e5⟩:=o5
   obtain rfl:=sOp ho e1
   have dp:=dPo e5 hdep
   obtain⟨b4,c4,V4,f4,z4⟩:∃ b bc,a.tmps.getD 105 undef=.tuple #[.slice b D0 bc,.int .i64 0]∧Reads .i64 w b D0 OQ∧D0≤bc:=hI.val 4 105 (by decide) rfl (dp 4 (by decide))
   exact wVa (v:=.slice b4 D0 c4) (w':=w) ho e4 (by simp[execOp,e3,ev,evc,V4,Instr.extract]) (by rw[e2];exact go rfl (Below.refl _ _) hw ⟨_,_,rfl,f4,z4⟩)
  ·obtain⟨o',e1,e2,e3,e4,e5⟩:=o6
   obtain rfl:=sOp ho e1
   have dp:=dPo e5 hdep
   obtain⟨b4,c4,V4,f4,z4⟩:∃ b bc,a.tmps.getD 105 undef=.tuple #[.slice b D0 bc,.int .i64 0]∧Reads .i64 w b D0 OQ∧D0≤bc:=hI.val 4 105 (by decide) rfl (dp 4 (by decide))
   exact wVa (v:=.int .i64 0) (w':=w) ho e4 (by simp[execOp,e3,ev,evc,V4,Instr.extract]) (by rw[e2];exact go rfl (Below.refl _ _) hw rfl)
  ·obtain⟨o',e1,e2,e3,e4,e5⟩:=o7
   obtain rfl:=sOp ho e1
   have dp:=dPo e5 hdep
   obtain⟨b5,c5,V5,f5,z5⟩:∃ b bc,a.tmps.getD 106 undef=.slice b D0 bc∧Reads .i64 w b D0 OQ∧D0≤bc:=hI.val 5 106 (by decide) rfl (dp 5 (by decide))
   have V6:a.tmps.getD 107 undef=.int .i64 0:=hI.val 6 107 (by decide) rfl (dp 6 (by decide))
   refine wCa (f:=48) (args:=#[.slice b5 D0 c5,.int .i64 0]) ho e4 (by simp[execOp,e3,resolve,invoke,Deferred.ofValue,r48,ev,evf,evc,V5,V6]) ((mdmust_yes _ _ _ w).mono ?_)
   rintro e W' ⟨rfl,hq6⟩
   refine⟨_,rfl,?_⟩
   rw[e2]
   exact go rfl (by rw[hq6];exact Below.refl _ _) (by rw[hq6];exact hw) ⟨_,_,rfl,(by rw[hq6];exact f5),z5⟩
  ·obtain⟨o',e1,e2,e3,e4,e5⟩:=o8
   obtain rfl:=sOp ho e1
   have dp:=dPo e5 hdep
   have U11:a.tmps.getD 11 undef=.slice ka D0 kc:=(k2 11 (fun j hj hjl e=>by
    obtain rfl:=lhD_inj j hj 18 (by decide) (e.trans rfl) (by rw[e];simp)
    have y0:=hcl.dep' o18 hjl 8 (by decide)
    rw[hl] at y0
    cases y0)).trans u11
   exact wVa (v:=.slice ka D0 kc) (w':=w) ho e4 (by simp[execOp,e3,ev,evc,U11]) (by rw[e2];exact go rfl (Below.refl _ _) hw rfl)
  ·obtain⟨o',e1,e2,e3,e4,e5⟩:=o9
   obtain rfl:=sOp ho e1
   have dp:=dPo e5 hdep
   have U13:a.tmps.getD 13 undef=.pointer (some ⟨cb,0,none⟩):=(kp 13 (by decide)).trans u13
   exact wVa (v:=.pointer (some ⟨cb,1,none⟩)) (w':=w) ho e4 (by simp[execOp,e3,ev,evc,U13,x9 w]) (by rw[e2];exact go rfl (Below.refl _ _) hw rfl)
  ·obtain⟨o',e1,e2,e3,e4,e5⟩:=o10
   obtain rfl:=sOp ho e1
   have dp:=dPo e5 hdep
   have V9:a.tmps.getD 110 undef=.pointer (some ⟨cb,1,none⟩):=hI.val 9 110 (by decide) rfl (dp 9 (by decide))
   exact wVa (v:=.int .i64 hh) (w':=w) ho e4 (by simp[execOp,e3,ev,evc,V9,x10 w hw]) (by rw[e2];exact go rfl (Below.refl _ _) hw rfl)
  ·obtain⟨o',e1,e2,e3,e4,e5⟩:=o11
   obtain rfl:=sOp ho e1
   have dp:=dPo e5 hdep
   have U3:a.tmps.getD 3 undef=.int .i64 p:=(kp 3 (by decide)).trans u3
   exact wVa (v:=.int .i64 p) (w':=w) ho e4 (by simp[execOp,e3,ev,evc,U3]) (by rw[e2];exact go rfl (Below.refl _ _) hw rfl)
  ·obtain⟨o',e1,e2,e3,e4,e5⟩:=o12
   obtain rfl:=sOp ho e1
   have dp:=dPo e5 hdep
   have V8:a.tmps.getD 109 undef=.slice ka D0 kc:=hI.val 8 109 (by decide) rfl (dp 8 (by decide))
   have V10:a.tmps.getD 111 undef=.int .i64 hh:=hI.val 10 111 (by decide) rfl (dp 10 (by decide))
   have V11:a.tmps.getD 112 undef=.int .i64 p:=hI.val 11 112 (by decide) rfl (dp 11 (by decide))
   refine wCa (f:=95) (args:=#[.slice ka D0 kc,.int .i64 hh,.int .i64 p]) ho e4 (by simp[execOp,e3,resolve,invoke,Deferred.ofValue,r95,ev,evf,evc,V8,V10,V11]) ((x12 w hw).mono ?_)
   rintro e W' ⟨b,bc,rfl,hr6,hz6,hb6,hs6⟩
   refine⟨_,rfl,?_⟩
   rw[e2]
   exact go rfl hb6 hs6 ⟨b,bc,rfl,hr6,hz6⟩
  ·obtain⟨o',e1,e2,e3,e4,e5⟩:=o13
   obtain rfl:=sOp ho e1
   have dp:=dPo e5 hdep
   obtain⟨b12,c12,V12,f12,z12⟩:∃ b bc,a.tmps.getD 113 undef=.tuple #[.slice b D0 bc,.int .i64 0]∧Reads .i64 w b D0 OK∧D0≤bc:=hI.val 12 113 (by decide) rfl (dp 12 (by decide))
   exact wVa (v:=.slice b12 D0 c12) (w':=w) ho e4 (by simp[execOp,e3,ev,evc,V12,Instr.extract]) (by rw[e2];exact go rfl (Below.refl _ _) hw ⟨_,_,rfl,f12,z12⟩)
  ·obtain⟨o',e1,e2,e3,e4,e5⟩:=o14
   obtain rfl:=sOp ho e1
   have dp:=dPo e5 hdep
   obtain⟨b12,c12,V12,f12,z12⟩:∃ b bc,a.tmps.getD 113 undef=.tuple #[.slice b D0 bc,.int .i64 0]∧Reads .i64 w b D0 OK∧D0≤bc:=hI.val 12 113 (by decide) rfl (dp 12 (by decide))
   exact wVa (v:=.int .i64 0) (w':=w) ho e4 (by simp[execOp,e3,ev,evc,V12,Instr.extract]) (by rw[e2];exact go rfl (Below.refl _ _) hw rfl)
  ·obtain⟨o',e1,e2,e3,e4,e5⟩:=o15
   obtain rfl:=sOp ho e1
   have dp:=dPo e5 hdep
   obtain⟨b13,c13,V13,f13,z13⟩:∃ b bc,a.tmps.getD 114 undef=.slice b D0 bc∧Reads .i64 w b D0 OK∧D0≤bc:=hI.val 13 114 (by decide) rfl (dp 13 (by decide))
   have V14:a.tmps.getD 115 undef=.int .i64 0:=hI.val 14 115 (by decide) rfl (dp 14 (by decide))
   refine wCa (f:=48) (args:=#[.slice b13 D0 c13,.int .i64 0]) ho e4 (by simp[execOp,e3,resolve,invoke,Deferred.ofValue,r48,ev,evf,evc,V13,V14]) ((mdmust_yes _ _ _ w).mono ?_)
   rintro e W' ⟨rfl,hq6⟩
   refine⟨_,rfl,?_⟩
   rw[e2]
   exact go rfl (by rw[hq6];exact Below.refl _ _) (by rw[hq6];exact hw) ⟨_,_,rfl,(by rw[hq6];exact f13),z13⟩
  ·obtain⟨o',e1,e2,e3,e4,e5⟩:=o16
   obtain rfl:=sOp ho e1
   have dp:=dPo e5 hdep
   have U12:a.tmps.getD 12 undef=.slice va D0 vc:=(k2 12 (fun j hj hjl e=>by
    obtain rfl:=lhD_inj j hj 19 (by decide) (e.trans rfl) (by rw[e];simp)
    have y0:=hcl.dep' o19 hjl 16 (by decide)
    rw[hl] at y0
    cases y0)).trans u12
   exact wVa (v:=.slice va D0 vc) (w':=w) ho e4 (by simp[execOp,e3,ev,evc,U12]) (by rw[e2];exact go rfl (Below.refl _ _) hw rfl)
  ·obtain⟨o',e1,e2,e3,e4,e5⟩:=o17
   obtain rfl:=sOp ho e1
   have dp:=dPo e5 hdep
   have V0:a.tmps.getD 101 undef=.slice qa D0 qc:=hI.val 0 101 (by decide) rfl (dp 0 (by decide))
   obtain⟨b7,c7,V7,f7,z7⟩:∃ b bc,a.tmps.getD 108 undef=.slice b D0 bc∧Reads .i64 w b D0 OQ∧D0≤bc:=hI.val 7 108 (by decide) rfl (dp 7 (by decide))
   exact wVa (v:=.slice b7 D0 c7) (w':=w) ho e4 (by simp[execOp,e3,ev,evc,V0,V7]) (by rw[e2];exact go rfl (Below.refl _ _) hw ⟨_,_,rfl,f7,z7⟩)
  ·obtain⟨o',e1,e2,e3,e4,e5⟩:=o18
   obtain rfl:=sOp ho e1
   have dp:=dPo e5 hdep
   have V8:a.tmps.getD 109 undef=.slice ka D0 kc:=hI.val 8 109 (by decide) rfl (dp 8 (by decide))
   obtain⟨b15,c15,V15,f15,z15⟩:∃ b bc,a.tmps.getD 116 undef=.slice b D0 bc∧Reads .i64 w b D0 OK∧D0≤bc:=hI.val 15 116 (by decide) rfl (dp 15 (by decide))
   exact wVa (v:=.slice b15 D0 c15) (w':=w) ho e4 (by simp[execOp,e3,ev,evc,V8,V15]) (by rw[e2];exact go rfl (Below.refl _ _) hw ⟨_,_,rfl,f15,z15⟩)
  ·obtain⟨o',e1,e2,e3,e4,e5⟩:=o19
   obtain rfl:=sOp ho e1
   have dp:=dPo e5 hdep
   have V16:a.tmps.getD 117 undef=.slice va D0 vc:=hI.val 16 117 (by decide) rfl (dp 16 (by decide))
   exact wVa (v:=.slice va D0 vc) (w':=w) ho e4 (by simp[execOp,e3,ev,evc,V16]) (by rw[e2];exact go rfl (Below.refl _ _) hw rfl)
 ·intro l a w hall hI
  have all:∀ j,j<20→l j=true:=fun j hj=>hall j (by rw[hsz];exact hj)
  exact fin a w hI.size hI.defers hI.kept hI.world.1 (fun i d hi hD=>hI.val i d hi hD (all i hi))
section
open Go.ChangeShapes Go.WideShapes Go.ChangeAt Go.RowKit Go.Sort
theorem check_no (R S d h l v u x t n:Int)(La:Option Addr)(ml Lc:Nat)(w:World)
  (k32:∀ w,Calls Tryz.prog 90 #[.int .i64 R,.int .i64 S,.agg #[.int .i64 d,.int .i64 h,.int .i64 l,.int .i64 v,.int .i64 u,.int .i64 x,.int .i64 t,.int .i64 n]] w fun e w'=>e=.returned (.bool false)∧Below w.heap.size w w') :
  Calls Tryz.prog 55 #[.agg #[.int .i64 R,.int .i64 S,.slice La ml Lc],.agg #[.int .i64 d,.int .i64 h,.int .i64 l,.int .i64 v,.int .i64 u,.int .i64 x,.int .i64 t,.int .i64 n]] w fun e w'=>e=.returned (.int .i64 20)∧Below w.heap.size w w':=by
 have hb:=bNw (bNw (Below.refl w.heap.size w) (.cells #[.int .i64 R,.int .i64 S,.slice La ml Lc] 30)) (.cells #[.int .i64 d,.int .i64 h,.int .i64 l,.int .i64 v,.int .i64 u,.int .i64 x,.int .i64 t,.int .i64 n] 23)
 have qa:Blk 30 ((w.alloc (.cells #[.int .i64 R,.int .i64 S,.slice La ml Lc] 30)).alloc (.cells #[.int .i64 d,.int .i64 h,.int .i64 l,.int .i64 v,.int .i64 u,.int .i64 x,.int .i64 t,.int .i64 n] 23)) w.heap.size #[.int .i64 R,.int .i64 S,.slice La ml Lc]:=(Blk.new 30 w _).kept (bNw (Below.refl _ _) _)
 have qc:Blk 23 ((w.alloc (.cells #[.int .i64 R,.int .i64 S,.slice La ml Lc] 30)).alloc (.cells #[.int .i64 d,.int .i64 h,.int .i64 l,.int .i64 v,.int .i64 u,.int .i64 x,.int .i64 t,.int .i64 n] 23)) (w.heap.size+1) #[.int .i64 d,.int .i64 h,.int .i64 l,.int .i64 v,.int .i64 u,.int .i64 x,.int .i64 t,.int .i64 n]:=Blk.new_at 23 (w.alloc _) _ _ (by simp)
 obtain⟨a0,a1,a2⟩:=qa.c3
 obtain⟨c0,c1,c2,c3,c4,c5,c6,c7⟩:=qc.cfg
 go_enter Tryz.func55,Tryz.ntmps55
 go_wp2_with (first|(go_at_call 90;refine (k32 _).mono ?_;rintro e W1 ⟨rfl,h1⟩;replace qa:=qa.kept h1;replace qc:=qc.kept h1;replace hb:=bTn hb h1;clear h1 a0 a1 a2 c0 c1 c2 c3 c4 c5 c6 c7;obtain⟨a0,a1,a2⟩:=qa.c3;obtain⟨c0,c1,c2,c3,c4,c5,c6,c7⟩:=qc.cfg))
 go_ret
 exact⟨rfl,hb⟩
theorem check_few (R S d h l v u x t n:Int)(La:Option Addr)(ml Lc:Nat)(w:World)(g:((ml:Int)==l)=false)
  (k32:∀ w,Calls Tryz.prog 90 #[.int .i64 R,.int .i64 S,.agg #[.int .i64 d,.int .i64 h,.int .i64 l,.int .i64 v,.int .i64 u,.int .i64 x,.int .i64 t,.int .i64 n]] w fun e w'=>e=.returned (.bool true)∧Below w.heap.size w w') :
  Calls Tryz.prog 55 #[.agg #[.int .i64 R,.int .i64 S,.slice La ml Lc],.agg #[.int .i64 d,.int .i64 h,.int .i64 l,.int .i64 v,.int .i64 u,.int .i64 x,.int .i64 t,.int .i64 n]] w fun e w'=>e=.returned (.int .i64 21)∧Below w.heap.size w w':=by
 have hb:=bNw (bNw (Below.refl w.heap.size w) (.cells #[.int .i64 R,.int .i64 S,.slice La ml Lc] 30)) (.cells #[.int .i64 d,.int .i64 h,.int .i64 l,.int .i64 v,.int .i64 u,.int .i64 x,.int .i64 t,.int .i64 n] 23)
 have qa:Blk 30 ((w.alloc (.cells #[.int .i64 R,.int .i64 S,.slice La ml Lc] 30)).alloc (.cells #[.int .i64 d,.int .i64 h,.int .i64 l,.int .i64 v,.int .i64 u,.int .i64 x,.int .i64 t,.int .i64 n] 23)) w.heap.size #[.int .i64 R,.int .i64 S,.slice La ml Lc]:=(Blk.new 30 w _).kept (bNw (Below.refl _ _) _)
 have qc:Blk 23 ((w.alloc (.cells #[.int .i64 R,.int .i64 S,.slice La ml Lc] 30)).alloc (.cells #[.int .i64 d,.int .i64 h,.int .i64 l,.int .i64 v,.int .i64 u,.int .i64 x,.int .i64 t,.int .i64 n] 23)) (w.heap.size+1) #[.int .i64 d,.int .i64 h,.int .i64 l,.int .i64 v,.int .i64 u,.int .i64 x,.int .i64 t,.int .i64 n]:=Blk.new_at 23 (w.alloc _) _ _ (by simp)
 obtain⟨a0,a1,a2⟩:=qa.c3
 obtain⟨c0,c1,c2,c3,c4,c5,c6,c7⟩:=qc.cfg
 go_enter Tryz.func55,Tryz.ntmps55
 go_wp2_with (first|(go_at_call 90;refine (k32 _).mono ?_;rintro e W1 ⟨rfl,h1⟩;replace qa:=qa.kept h1;replace qc:=qc.kept h1;replace hb:=bTn hb h1;clear h1 a0 a1 a2 c0 c1 c2 c3 c4 c5 c6 c7;obtain⟨a0,a1,a2⟩:=qa.c3;obtain⟨c0,c1,c2,c3,c4,c5,c6,c7⟩:=qc.cfg))
 go_ret
 exact⟨rfl,hb⟩
theorem check_loop (R S d h v u x t n:Int)(x0:Addr)(ml Lc:Nat)(L:SL)(Y:Nat→Nat→SL)(m:AdV)(w:World)(hM:AdAt w L Y m)(eA:L.a=some x0)(hml:m.ln=ml)(hl:ml≤1000000)(N V:Int)
  (no:∀ i,i<ml→∀ j,j<4→((Y i j).n:Int)≠N→V=21) (yes:(∀ i,i<ml→∀ j,j<4→((Y i j).n:Int)=N)→V=0)
  (k32:∀ w,Calls Tryz.prog 90 #[.int .i64 R,.int .i64 S,.agg #[.int .i64 d,.int .i64 h,.int .i64 (ml:Int),.int .i64 v,.int .i64 u,.int .i64 x,.int .i64 t,.int .i64 n]] w fun e w'=>e=.returned (.bool true)∧Below w.heap.size w w')
  (k34:∀ w,Calls Tryz.prog 92 #[.int .i64 R,.agg #[.int .i64 d,.int .i64 h,.int .i64 (ml:Int),.int .i64 v,.int .i64 u,.int .i64 x,.int .i64 t,.int .i64 n]] w fun e w'=>e=.returned (.int .i64 N)∧Below w.heap.size w w') :
  Calls Tryz.prog 55 #[.agg #[.int .i64 R,.int .i64 S,.slice (some x0) ml Lc],.agg #[.int .i64 d,.int .i64 h,.int .i64 (ml:Int),.int .i64 v,.int .i64 u,.int .i64 x,.int .i64 t,.int .i64 n]] w fun e w'=>e=.returned (.int .i64 V)∧Below w.heap.size w w':=by
 have hb:=bNw (bNw (Below.refl w.heap.size w) (.cells #[.int .i64 R,.int .i64 S,.slice (some x0) ml Lc] 30)) (.cells #[.int .i64 d,.int .i64 h,.int .i64 (ml:Int),.int .i64 v,.int .i64 u,.int .i64 x,.int .i64 t,.int .i64 n] 23)
 have qa:Blk 30 ((w.alloc (.cells #[.int .i64 R,.int .i64 S,.slice (some x0) ml Lc] 30)).alloc (.cells #[.int .i64 d,.int .i64 h,.int .i64 (ml:Int),.int .i64 v,.int .i64 u,.int .i64 x,.int .i64 t,.int .i64 n] 23)) w.heap.size #[.int .i64 R,.int .i64 S,.slice (some x0) ml Lc]:=(Blk.new 30 w _).kept (bNw (Below.refl _ _) _)
 have qc:Blk 23 ((w.alloc (.cells #[.int .i64 R,.int .i64 S,.slice (some x0) ml Lc] 30)).alloc (.cells #[.int .i64 d,.int .i64 h,.int .i64 (ml:Int),.int .i64 v,.int .i64 u,.int .i64 x,.int .i64 t,.int .i64 n] 23)) (w.heap.size+1) #[.int .i64 d,.int .i64 h,.int .i64 (ml:Int),.int .i64 v,.int .i64 u,.int .i64 x,.int .i64 t,.int .i64 n]:=Blk.new_at 23 (w.alloc _) _ _ (by simp)
 obtain⟨a0,a1,a2⟩:=qa.c3
 obtain⟨c0,c1,c2,c3,c4,c5,c6,c7⟩:=qc.cfg
 have HM:=hdn hM
 have HN:=hdn no
 have HY:=hdn yes
 have HL:=hdn hml
 have HA:=hdn eA
 clear hM no yes hml eA
 go_enter Tryz.func55,Tryz.ntmps55
 go_wp2_with (first|(go_at_call 90;refine (k32 _).mono ?_;rintro e W1 ⟨rfl,h1⟩;replace qa:=qa.kept h1;replace qc:=qc.kept h1;replace hb:=bTn hb h1;clear h1 a0 a1 a2 c0 c1 c2 c3 c4 c5 c6 c7;obtain⟨a0,a1,a2⟩:=qa.c3;obtain⟨c0,c1,c2,c3,c4,c5,c6,c7⟩:=qc.cfg))
 have HB:=hdn (And.intro hb (And.intro qa qc))
 clear hb qa qc a0 a1 a2 c0 c1 c2 c3 c4 c5 c6 c7 k32
 go_loopw [24] (fun i wr=>∃ k:Nat,k≤ml∧i=.int .i64 k∧Below w.heap.size w wr∧Blk 30 wr w.heap.size #[.int .i64 R,.int .i64 S,.slice (some x0) ml Lc]∧Blk 23 wr (w.heap.size+1) #[.int .i64 d,.int .i64 h,.int .i64 (ml:Int),.int .i64 v,.int .i64 u,.int .i64 x,.int .i64 t,.int .i64 n]∧Hid (∀ i,i<k→∀ j,j<4→((Y i j).n:Int)=N)) (fun i _=>ml-(intOf i).toNat)
 case atStart=>exact⟨0,Nat.zero_le _,rfl,HB.out.1,HB.out.2.1,HB.out.2.2,fun i hi=>absurd hi (Nat.not_lt_zero _)⟩
 case round =>
  clear HB
  obtain⟨k,hk,rfl,hb,qa,qc,good⟩:=hrel
  by_cases hlt:k<ml
  ·have hlt':(k:Int)<(ml:Int):=by omega
   obtain⟨a0,a1,a2⟩:=qa.c3
   have hc:=HM.out.cell x0 HA.out k (by rw[HL.out];exact hlt)
   obtain⟨P,eP⟩:∃ P,x0.add (k*4)=P:=⟨_,rfl⟩
   rw[eP] at hc
   have HC:=hdn hc
   clear hc
   have k33:=lists_call P
   go_wp2_with (first|(go_at_call 91;refine (k33 _).mono ?_;rintro e W2 ⟨rfl,h2⟩;replace qa:=qa.kept h2;replace qc:=qc.kept h2;replace hb:=bTn hb h2;clear h2 a0 a1 a2))
   obtain⟨i0,i1,i2,i3⟩:=index_all (.pointer (some P)) (.pointer (some ⟨P.block,P.off+1,none⟩)) (.pointer (some ⟨P.block,P.off+2,none⟩)) (.pointer (some ⟨P.block,P.off+3,none⟩))
   have ix:Hid (∀ j,j<4→∀ w:World,(Instr.index 125 (.agg #[.pointer (some P),.pointer (some ⟨P.block,P.off+1,none⟩),.pointer (some ⟨P.block,P.off+2,none⟩),.pointer (some ⟨P.block,P.off+3,none⟩)]) (.int .i64 (j:Nat))).run Tryz.prog w=.ok (.pointer (some (P.add j))) w):=fun j hj=>by
    rcases (show j=0∨j=1∨j=2∨j=3 by omega) with rfl|rfl|rfl|rfl
    ·exact i0
    ·exact i1
    ·exact i2
    ·exact i3
   clear i0 i1 i2 i3 k33 eP
   have HB:=hdn (And.intro hb (And.intro qa qc))
   clear hb qa qc
   go_loopw [32] (fun i wr=>∃ j:Nat,j≤4∧i=.int .i64 j∧Below w.heap.size w wr∧Blk 30 wr w.heap.size #[.int .i64 R,.int .i64 S,.slice (some x0) ml Lc]∧Blk 23 wr (w.heap.size+1) #[.int .i64 d,.int .i64 h,.int .i64 (ml:Int),.int .i64 v,.int .i64 u,.int .i64 x,.int .i64 t,.int .i64 n]∧Hid (∀ i,i<j→((Y k i).n:Int)=N)) (fun i _=>4-(intOf i).toNat)
   case atStart=>exact⟨0,Nat.zero_le _,rfl,HB.out.1,HB.out.2.1,HB.out.2.2,fun i hi=>absurd hi (Nat.not_lt_zero _)⟩
   case round =>
    clear HB
    obtain⟨j,hj,rfl,hb,qa,qc,goodj⟩:=hrel
    by_cases hjt:j<4
    ·have hjt':(j:Int)<4:=by omega
     have ij:=ix.out j hjt
     have hc:=HC.out j hjt
     have hc':=((hb.cell (World.block_lt_of_cell? w _ hc)).trans hc)
     obtain⟨Q,eQ⟩:∃ Q,P.add j=Q:=⟨_,rfl⟩
     rw[eQ] at ij hc'
     obtain⟨SA,SN,SC,eS⟩:∃ SA SN SC,Y k j=⟨SA,SN,SC⟩:=⟨(Y k j).a,(Y k j).n,(Y k j).c,rfl⟩
     rw[eS] at hc'
     have cq:wr.cell? Q=some (.slice SA SN SC):=hc'
     have eN:(Y k j).n=SN:=by rw[eS]
     have EN:=hdn eN
     clear hc hc' eQ eS eN
     have kn':∀ d' os,Calls Tryz.prog 92 #[.int .i64 R,.agg #[.int .i64 d,.int .i64 h,.int .i64 (ml:Int),.int .i64 v,.int .i64 u,.int .i64 x,.int .i64 t,.int .i64 n]] (grow (redrawn wr d') os) fun e w''=>e=.returned (.int .i64 N)∧∃ p:Regrown,w''=grow (redrawn wr p.d) p.os:=fun d' os =>
      Calls.regrown_of ((k34 _).mono fun e w' he=>⟨he.1,he.2⟩)
     obtain⟨a0,a1,a2⟩:=qa.c3
     obtain⟨c0,c1,c2,c3,c4,c5,c6,c7⟩:=qc.cfg
     replace cq:=cell_regrown cq
     replace a0:=cell_regrown a0
     replace c0:=cell_regrown c0
     replace c1:=cell_regrown c1
     replace c2:=cell_regrown c2
     replace c3:=cell_regrown c3
     replace c4:=cell_regrown c4
     replace c5:=cell_regrown c5
     replace c6:=cell_regrown c6
     replace c7:=cell_regrown c7
     clear a1 a2
     by_cases g1:(SN:Int)=N
     ·have g1':((SN:Int) != N)=false:=by simp[g1]
      have good':Hid (∀ i,i<j+1→((Y k i).n:Int)=N):=fun i hi=>by
       by_cases e:i=j
       ·subst e;rw[EN.out];exact g1
       ·exact goodj.out i (by omega)
      clear g1 goodj
      go_wp2
      refine wp_region_quiet_below (by kernel_rfl) (by kernel_rfl) ?_
      repeat (go_big_quiet_step (first|(go_at_call 92;exact kn' _ _)))
      refine wpQuiet_nil ?_
      intro _ hw'
      obtain⟨⟨dq,osq⟩,hw''⟩:=hw'
      subst hw''
      have hbq:=below_regrown wr dq osq
      replace qa:=qa.kept hbq
      replace qc:=qc.kept hbq
      replace hb:=bTn hb hbq
      clear hbq kn' cq a0 c0 c1 c2 c3 c4 c5 c6 c7 ij
      go_wp2
      go_roundw
      case rel=>exact⟨j+1,by omega,by go_num,hb,qa,qc,good'⟩
      case measure=>simp[intOf];omega
     ·have g1':((SN:Int) != N)=true:=by simp[g1]
      have e:=HN.out k hlt j hjt (by rw[EN.out];exact g1)
      clear g1 goodj
      subst e
      go_wp2
      refine wp_region_quiet_below (by kernel_rfl) (by kernel_rfl) ?_
      repeat (go_big_quiet_step (first|(go_at_call 92;exact kn' _ _)))
      refine wpQuiet_nil ?_
      intro _ hw'
      obtain⟨⟨dq,osq⟩,hw''⟩:=hw'
      subst hw''
      have hbq:=below_regrown wr dq osq
      replace hb:=bTn hb hbq
      clear hbq kn' cq a0 c0 c1 c2 c3 c4 c5 c6 c7 ij
      go_wp2
      go_ret
      exact⟨rfl,hb⟩
    ·have e:j=4:=by omega
     subst e
     have good':Hid (∀ i,i<k+1→∀ j,j<4→((Y i j).n:Int)=N):=fun i hi j hj=>by
      by_cases e:i=k
      ·subst e;exact goodj.out j hj
      ·exact good.out i (by omega) j hj
     clear goodj
     go_wp2
     go_roundw
     case rel=>exact⟨k+1,by omega,by go_num,hb,qa,qc,good'⟩
     case measure=>simp[intOf];omega
  ·have e:k=ml:=by omega
   subst e
   have e:=HY.out good.out
   subst e
   go_wp2
   go_ret
   exact⟨rfl,hb⟩
theorem rightA_of {R S d h l v u x t n:Int}(ok:okA R S d h l v u x t n=true):RightA R S d l:=by
 unfold okA okB headsB at ok
 simp only[Bool.and_eq_true,decide_eq_true_eq] at ok
 constructor<;>omega
theorem grcheck_call (R S d h l v u x t n:Int)(L:SL)(Y:Nat→Nat→SL)(m:AdV)(w:World)(hM:AdAt w L Y m) :
  Calls Tryz.prog 55 #[.agg #[.int .i64 R,.int .i64 S,.slice L.a L.n L.c],.agg #[.int .i64 d,.int .i64 h,.int .i64 l,.int .i64 v,.int .i64 u,.int .i64 x,.int .i64 t,.int .i64 n]] w fun e w'=>e=.returned (.int .i64 (checkA R S d h l v u x t n m))∧Below w.heap.size w w':=by
 have k32:=inRange_call R S d h l v u x t n
 unfold checkA
 cases ok:okA R S d h l v u x t n with
 | false =>
  rw[if_neg (by simp)]
  simp only[ok] at k32
  exact check_no R S d h l v u x t n L.a L.n L.c w k32
 | true =>
  rw[if_pos rfl]
  simp only[ok] at k32
  have r:=rightA_of ok
  have r0:=r.r0
  have r1:=r.r1
  have d0:=r.d0
  have d1:=r.d1
  have l0:=r.l0
  have l1:=r.l1
  by_cases e:(m.ln:Int)=l
  ·have hn:L.n=m.ln:=hM.len
   obtain⟨x0,ex⟩:=hM.some_ (by omega)
   have hp:0≤R*d:=Int.mul_nonneg (by omega) (by omega)
   have hp':R*d≤4*8:=Int.mul_le_mul r1 d1 (by omega) (by omega)
   have k34:=listSize_call R d h l v u x t n (R*d) rfl (by omega) (by omega)
   have hlen:∀ i,i<m.ln→∀ j,j<4→(Y i j).n=(m.f i j).length:=fun i hi j hj=>(hM.lay i hi j hj).reads.len.symm
   have key:=fun V no yes=>check_loop R S d h v u x t n x0 L.n L.c L Y m w hM ex hn.symm (by omega) (R*d) V no yes
   rw[show ((L.n:Nat):Int)=l by omega] at key
   rw[hn] at key ⊢
   rw[ex]
   refine key _ (fun i hi j hj hne=>?_) (fun hall=>?_) k32 k34
   ·rw[if_neg]
    rintro⟨_,hq⟩
    exact hne (by rw[hlen i hi j hj];exact lensA_iff.1 hq i hi j hj)
   ·rw[if_pos ⟨e,lensA_iff.2 fun i hi j hj=>by rw[←hlen i hi j hj];exact hall i hi j hj⟩]
  ·rw[if_neg (fun k=>e k.1)]
   exact check_few R S d h l v u x t n L.a L.n L.c w (by rw[hM.len];simp[e]) k32
end
section
open Go.Sort hiding Below
theorem grrefCheck_no (R S d h l v u x t n:Int)(La:Option Addr)(ml Lc:Nat)(w:World)
  (k35:∀ w,Calls Tryz.prog 83 #[.int .i64 R,.int .i64 S,.agg #[.int .i64 d,.int .i64 h,.int .i64 l,.int .i64 v,.int .i64 u,.int .i64 x,.int .i64 t,.int .i64 n]] w fun e w'=>e=.returned (.bool false)∧Below w.heap.size w w') :
  Calls Tryz.prog 65 #[.agg #[.int .i64 R,.int .i64 S,.slice La ml Lc],.agg #[.int .i64 d,.int .i64 h,.int .i64 l,.int .i64 v,.int .i64 u,.int .i64 x,.int .i64 t,.int .i64 n]] w fun e w'=>e=.returned (.int .i64 20)∧Below w.heap.size w w':=by
 have hb:=bNw (bNw (Below.refl w.heap.size w) (.cells #[.int .i64 R,.int .i64 S,.slice La ml Lc] 30)) (.cells #[.int .i64 d,.int .i64 h,.int .i64 l,.int .i64 v,.int .i64 u,.int .i64 x,.int .i64 t,.int .i64 n] 23)
 have qa:Blk 30 ((w.alloc (.cells #[.int .i64 R,.int .i64 S,.slice La ml Lc] 30)).alloc (.cells #[.int .i64 d,.int .i64 h,.int .i64 l,.int .i64 v,.int .i64 u,.int .i64 x,.int .i64 t,.int .i64 n] 23)) w.heap.size #[.int .i64 R,.int .i64 S,.slice La ml Lc]:=(Blk.new 30 w _).kept (bNw (Below.refl _ _) _)
 have qc:Blk 23 ((w.alloc (.cells #[.int .i64 R,.int .i64 S,.slice La ml Lc] 30)).alloc (.cells #[.int .i64 d,.int .i64 h,.int .i64 l,.int .i64 v,.int .i64 u,.int .i64 x,.int .i64 t,.int .i64 n] 23)) (w.heap.size+1) #[.int .i64 d,.int .i64 h,.int .i64 l,.int .i64 v,.int .i64 u,.int .i64 x,.int .i64 t,.int .i64 n]:=Blk.new_at 23 (w.alloc _) _ _ (by simp)
 obtain⟨a0,a1,a2⟩:=qa.c3
 obtain⟨c0,c1,c2,c3,c4,c5,c6,c7⟩:=qc.cfg
 go_enter Tryz.func65,Tryz.ntmps65
 go_wp2_with (first|(go_at_call 83;refine (k35 _).mono ?_;rintro e W1 ⟨rfl,h1⟩;replace qa:=qa.kept h1;replace qc:=qc.kept h1;replace hb:=bTn hb h1;clear h1 a0 a1 a2 c0 c1 c2 c3 c4 c5 c6 c7;obtain⟨a0,a1,a2⟩:=qa.c3;obtain⟨c0,c1,c2,c3,c4,c5,c6,c7⟩:=qc.cfg))
 go_ret
 exact⟨rfl,hb⟩
theorem refCheck_loop (R S d h l v u x t n:Int)(La:Option Addr)(ml Lc:Nat)(L:SL)(Y:Nat→Nat→SL)(m:AdV)(w:World)(hM:AdAt w L Y m)(eA:L.a=La)(hml:m.ln=ml)(hl:ml≤9223372036854775807)(N V:Int)(B0:Bool)(hN:R*d=N)(n0:-9223372036854775808≤N)(n1:N≤9223372036854775807)(g:((ml:Int)==l)=B0)
  (few:B0=false→V=21) (no:∀ i,i<ml→∀ j,j<4→((Y i j).n:Int)≠N→V=21) (yes:(∀ i,i<ml→∀ j,j<4→((Y i j).n:Int)=N)→V=0∨B0=false)
  (k35:∀ w,Calls Tryz.prog 83 #[.int .i64 R,.int .i64 S,.agg #[.int .i64 d,.int .i64 h,.int .i64 l,.int .i64 v,.int .i64 u,.int .i64 x,.int .i64 t,.int .i64 n]] w fun e w'=>e=.returned (.bool true)∧Below w.heap.size w w') :
  Calls Tryz.prog 65 #[.agg #[.int .i64 R,.int .i64 S,.slice La ml Lc],.agg #[.int .i64 d,.int .i64 h,.int .i64 l,.int .i64 v,.int .i64 u,.int .i64 x,.int .i64 t,.int .i64 n]] w fun e w'=>e=.returned (.int .i64 V)∧Below w.heap.size w w':=by
 have hb:=bNw (bNw (Below.refl w.heap.size w) (.cells #[.int .i64 R,.int .i64 S,.slice La ml Lc] 30)) (.cells #[.int .i64 d,.int .i64 h,.int .i64 l,.int .i64 v,.int .i64 u,.int .i64 x,.int .i64 t,.int .i64 n] 23)
 have qa:Blk 30 ((w.alloc (.cells #[.int .i64 R,.int .i64 S,.slice La ml Lc] 30)).alloc (.cells #[.int .i64 d,.int .i64 h,.int .i64 l,.int .i64 v,.int .i64 u,.int .i64 x,.int .i64 t,.int .i64 n] 23)) w.heap.size #[.int .i64 R,.int .i64 S,.slice La ml Lc]:=(Blk.new 30 w _).kept (bNw (Below.refl _ _) _)
 have qc:Blk 23 ((w.alloc (.cells #[.int .i64 R,.int .i64 S,.slice La ml Lc] 30)).alloc (.cells #[.int .i64 d,.int .i64 h,.int .i64 l,.int .i64 v,.int .i64 u,.int .i64 x,.int .i64 t,.int .i64 n] 23)) (w.heap.size+1) #[.int .i64 d,.int .i64 h,.int .i64 l,.int .i64 v,.int .i64 u,.int .i64 x,.int .i64 t,.int .i64 n]:=Blk.new_at 23 (w.alloc _) _ _ (by simp)
 obtain⟨a0,a1,a2⟩:=qa.c3
 obtain⟨c0,c1,c2,c3,c4,c5,c6,c7⟩:=qc.cfg
 have HM:=hdn hM
 have HN:=hdn no
 have HY:=hdn yes
 have HW:=hdn few
 have HL:=hdn hml
 have HA:=hdn eA
 clear hM no yes hml eA few
 go_enter Tryz.func65,Tryz.ntmps65
 go_wp2_with (first|(go_at_call 83;refine (k35 _).mono ?_;rintro e W1 ⟨rfl,h1⟩;replace qa:=qa.kept h1;replace qc:=qc.kept h1;replace hb:=bTn hb h1;clear h1 a0 a1 a2 c0 c1 c2 c3 c4 c5 c6 c7;obtain⟨a0,a1,a2⟩:=qa.c3;obtain⟨c0,c1,c2,c3,c4,c5,c6,c7⟩:=qc.cfg))
 have HB:=hdn (And.intro hb qa)
 clear hb qa qc a0 a1 a2 c0 c1 c2 c3 c4 c5 c6 c7 g k35 hN
 have good0:Hid (if B0=true then (∀ i,i<0→∀ j,j<4→((Y i j).n:Int)=N) else V=21):=by
  show if B0=true then (∀ i,i<0→∀ j,j<4→((Y i j).n:Int)=N) else V=21
  cases B0 with
  | true=>exact fun i hi=>absurd hi (Nat.not_lt_zero _)
  | false=>exact HW.out rfl
 go_loopw [6,7] (fun ok i wr=>∃ k:Nat,k≤ml∧i=.int .i64 k∧∃ b:Bool,ok=.bool b∧Hid (b=true→B0=true)∧Below w.heap.size w wr∧Blk 30 wr w.heap.size #[.int .i64 R,.int .i64 S,.slice La ml Lc]∧Hid (if b=true then (∀ i,i<k→∀ j,j<4→((Y i j).n:Int)=N) else V=21)) (fun _ i _=>ml-(intOf i).toNat)
 case atStart=>exact⟨0,Nat.zero_le _,rfl,B0,rfl,fun h=>h,HB.out.1,HB.out.2,good0⟩
 case round =>
  clear HB good0
  obtain⟨k,hk,rfl,b,rfl,bb,hb,qa,good⟩:=hrel
  obtain⟨a0,a1,a2⟩:=qa.c3
  cases b with
  | false =>
   have e:V=21:=good.out
   subst e
   by_cases hlt:k<ml
   ·have hlt':(k:Int)<(ml:Int):=by omega
    go_wp2
    go_ret
    exact⟨rfl,hb⟩
   ·have hlt':¬(k:Int)<(ml:Int):=by omega
    go_wp2
    go_ret
    exact⟨rfl,hb⟩
  | true =>
   by_cases hlt:k<ml
   ·have hlt':(k:Int)<(ml:Int):=by omega
    have BB:Hid (true=true→B0=true):=bb
    clear bb
    have GOOD:Hid (∀ i,i<k→∀ j,j<4→((Y i j).n:Int)=N):=good
    have hMr:=HM.out.below hb
    have hkm:k<m.ln:=by rw[HL.out];exact hlt
    obtain⟨x0,hx0⟩:=hMr.some_ (by omega)
    obtain rfl:La=some x0:=HA.out.symm.trans hx0
    obtain⟨P,eP,p0,p1,p2,p3⟩:=at_four (fun j hj=>hMr.cell x0 hx0 k hkm j hj)
    have q5:=Blk.new 61 wr #[.slice (Y k 0).a (Y k 0).n (Y k 0).c,.slice (Y k 1).a (Y k 1).n (Y k 1).c,.slice (Y k 2).a (Y k 2).n (Y k 2).c,.slice (Y k 3).a (Y k 3).n (Y k 3).c]
    have b5:=bNw (Below.refl wr.heap.size wr) (.cells #[.slice (Y k 0).a (Y k 0).n (Y k 0).c,.slice (Y k 1).a (Y k 1).n (Y k 1).c,.slice (Y k 2).a (Y k 2).n (Y k 2).c,.slice (Y k 3).a (Y k 3).n (Y k 3).c] 61)
    obtain⟨W5,e5⟩:∃ W5,wr.alloc (.cells #[.slice (Y k 0).a (Y k 0).n (Y k 0).c,.slice (Y k 1).a (Y k 1).n (Y k 1).c,.slice (Y k 2).a (Y k 2).n (Y k 2).c,.slice (Y k 3).a (Y k 3).n (Y k 3).c] 61)=W5:=⟨_,rfl⟩
    rw[e5] at q5 b5
    have hb5:=bTn hb b5
    have qa5:=qa.kept b5
    obtain⟨y0,y1,y2,y3⟩:=q5.c4
    clear hMr good b5 hb qa q5
    by_cases g0:((Y k 0).n:Int)=N
    ·have t0:(((Y k 0).n:Int)==N)=true:=by simp[g0]
     by_cases g1:((Y k 1).n:Int)=N
     ·have t1:(((Y k 1).n:Int)==N)=true:=by simp[g1]
      by_cases g2:((Y k 2).n:Int)=N
      ·have t2:(((Y k 2).n:Int)==N)=true:=by simp[g2]
       by_cases g3:((Y k 3).n:Int)=N
       ·have t3:(((Y k 3).n:Int)==N)=true:=by simp[g3]
        have good':Hid (if true=true then (∀ i,i<k+1→∀ j,j<4→((Y i j).n:Int)=N) else V=21):=by
         show ∀ i,i<k+1→∀ j,j<4→((Y i j).n:Int)=N
         intro i hi j hj
         by_cases e:i=k
         ·subst e
          rcases (show j=0∨j=1∨j=2∨j=3 by omega) with rfl|rfl|rfl|rfl<;>assumption
         ·exact GOOD.out i (by omega) j hj
        clear g0 g1 g2 g3
        go_wp2
        go_roundw
        case rel=>exact⟨k+1,by omega,by go_num,true,rfl,BB,hb5,qa5,good'⟩
        case measure=>simp[intOf];omega
       ·have t3:(((Y k 3).n:Int)==N)=false:=by simp[g3]
        have good':Hid (if false=true then (∀ i,i<k+1→∀ j,j<4→((Y i j).n:Int)=N) else V=21):=by
         show V=21
         exact HN.out k hlt 3 (by decide) g3
        clear g0 g1 g2 g3
        go_wp2
        go_roundw
        case rel=>exact⟨k+1,by omega,by go_num,false,rfl,(fun h=>by cases h),hb5,qa5,good'⟩
        case measure=>simp[intOf];omega
      ·have t2:(((Y k 2).n:Int)==N)=false:=by simp[g2]
       have good':Hid (if false=true then (∀ i,i<k+1→∀ j,j<4→((Y i j).n:Int)=N) else V=21):=by
        show V=21
        exact HN.out k hlt 2 (by decide) g2
       clear g0 g1 g2
       go_wp2
       go_roundw
       case rel=>exact⟨k+1,by omega,by go_num,false,rfl,(fun h=>by cases h),hb5,qa5,good'⟩
       case measure=>simp[intOf];omega
     ·have t1:(((Y k 1).n:Int)==N)=false:=by simp[g1]
      have good':Hid (if false=true then (∀ i,i<k+1→∀ j,j<4→((Y i j).n:Int)=N) else V=21):=by
       show V=21
       exact HN.out k hlt 1 (by decide) g1
      clear g0 g1
      go_wp2
      go_roundw
      case rel=>exact⟨k+1,by omega,by go_num,false,rfl,(fun h=>by cases h),hb5,qa5,good'⟩
      case measure=>simp[intOf];omega
    ·have t0:(((Y k 0).n:Int)==N)=false:=by simp[g0]
     have good':Hid (if false=true then (∀ i,i<k+1→∀ j,j<4→((Y i j).n:Int)=N) else V=21):=by
      show V=21
      exact HN.out k hlt 0 (by decide) g0
     clear g0
     go_wp2
     go_roundw
     case rel=>exact⟨k+1,by omega,by go_num,false,rfl,(fun h=>by cases h),hb5,qa5,good'⟩
     case measure=>simp[intOf];omega
   ·have hlt':¬(k:Int)<(ml:Int):=by omega
    have e:k=ml:=by omega
    subst e
    have gd:∀ i,i<k→∀ j,j<4→((Y i j).n:Int)=N:=good.out
    rcases HY.out gd with e|e
    ·subst e
     clear gd
     go_wp2
     go_ret
     exact⟨rfl,hb⟩
    ·exfalso
     have:=bb.out rfl
     rw[e] at this
     cases this
theorem grrefCheck_call (R S d h l v u x t n:Int)(L:SL)(Y:Nat→Nat→SL)(m:AdV)(w:World)(hM:AdAt w L Y m)(hm:m.ln≤9223372036854775807) :
  Calls Tryz.prog 65 #[.agg #[.int .i64 R,.int .i64 S,.slice L.a L.n L.c],.agg #[.int .i64 d,.int .i64 h,.int .i64 l,.int .i64 v,.int .i64 u,.int .i64 x,.int .i64 t,.int .i64 n]] w fun e w'=>e=.returned (.int .i64 (checkA R S d h l v u x t n m))∧Below w.heap.size w w':=by
 have k35:=refRanges_call R S d h l v u x t n
 unfold checkA
 cases ok:okA R S d h l v u x t n with
 | false =>
  rw[if_neg (by simp)]
  simp only[ok] at k35
  exact grrefCheck_no R S d h l v u x t n L.a L.n L.c w k35
 | true =>
  rw[if_pos rfl]
  simp only[ok] at k35
  have r:=rightA_of ok
  have r0:=r.r0
  have r1:=r.r1
  have d0:=r.d0
  have d1:=r.d1
  have hp:0≤R*d:=Int.mul_nonneg (by omega) (by omega)
  have hp':R*d≤4*8:=Int.mul_le_mul r1 d1 (by omega) (by omega)
  have hlen:∀ i,i<m.ln→∀ j,j<4→(Y i j).n=(m.f i j).length:=fun i hi j hj=>(hM.lay i hi j hj).reads.len.symm
  have hn:L.n=m.ln:=hM.len
  rw[hn]
  refine refCheck_loop R S d h l v u x t n L.a m.ln L.c L Y m w hM rfl rfl hm (R*d) _ _ rfl (by omega) (by omega) rfl (fun e=>?_) (fun i hi j hj hne=>?_) (fun hall=>?_) k35
  ·rw[if_neg]
   rintro⟨q,_⟩
   simp[q] at e
  ·rw[if_neg]
   rintro⟨_,hq⟩
   exact hne (by rw[hlen i hi j hj];exact lensA_iff.1 hq i hi j hj)
  ·by_cases e:(m.ln:Int)=l
   ·exact .inl (by rw[if_pos ⟨e,lensA_iff.2 fun i hi j hj=>by rw[←hlen i hi j hj];exact hall i hi j hj⟩])
   ·exact .inr (by simp[e])
end
end Go.Proofs.YthliomlmhfjhnaaGreat
