/- Texts put together. -/
import Derived.Test.YtbkjhfmehemgpaaGreatFb33
namespace Go.Proofs.YtbkjhfmehemgpaaGreat
set_option maxRecDepth 20000
set_option maxHeartbeats 16000000
open Go.ChangeShapes Go.WideShapes Go.ChangeAt Go.RowKit
set_option linter.unusedVariables false
set_option linter.unusedSimpArgs false
theorem Blk.c3 {t0:TypeId}{w:World}{b:Nat}{x0 x1 x2:Value}(k:Blk t0 w b #[x0,x1,x2]):w.cell? ⟨b,0,none⟩=some x0∧w.cell? ⟨b,1,none⟩=some x1∧w.cell? ⟨b,2,none⟩=some x2:=⟨k.cell 0 rfl,k.cell 1 rfl,k.cell 2 rfl⟩
theorem Blk.o3 {t0:TypeId}{w:World}{b:Nat}{cs:Array Value}(k:Blk t0 w b cs):w.frozen? ⟨b,0,none⟩=false∧w.frozen? ⟨b,1,none⟩=false∧w.frozen? ⟨b,2,none⟩=false:=⟨k.open_ 0,k.open_ 1,k.open_ 2⟩
theorem Blk.c4 {t0:TypeId}{w:World}{b:Nat}{x0 x1 x2 x3:Value}(k:Blk t0 w b #[x0,x1,x2,x3]):w.cell? ⟨b,0,none⟩=some x0∧w.cell? ⟨b,1,none⟩=some x1∧w.cell? ⟨b,2,none⟩=some x2∧w.cell? ⟨b,3,none⟩=some x3:=⟨k.cell 0 rfl,k.cell 1 rfl,k.cell 2 rfl,k.cell 3 rfl⟩
theorem set3 {t:TypeId}{W:World}{b:Nat}{x0 x1 x2:Value}(h:Blk t W b #[x0,x1,x2])(v0 v1 v2:Value) :
  ∃ W',((W.setCell ⟨b,0,none⟩ v0).setCell ⟨b,1,none⟩ v1).setCell ⟨b,2,none⟩ v2=W'∧Blk t W' b #[v0,v1,v2]∧Only b W W'∧W'.heap.size=W.heap.size:=by
 have q0:Blk t (W.setCell ⟨b,0,none⟩ v0) b #[v0,x1,x2]:=set_blk h 0 v0 rfl
 have q1:Blk t ((W.setCell ⟨b,0,none⟩ v0).setCell ⟨b,1,none⟩ v1) b #[v0,v1,x2]:=set_blk q0 1 v1 rfl
 have q2:Blk t (((W.setCell ⟨b,0,none⟩ v0).setCell ⟨b,1,none⟩ v1).setCell ⟨b,2,none⟩ v2) b #[v0,v1,v2]:=set_blk q1 2 v2 rfl
 exact⟨_,rfl,q2,((Only.set b 0 W v0).trans (Only.set b 1 _ v1)).trans (Only.set b 2 _ v2),by simp⟩
theorem mdneed_yes (n:Int)(w:World):Calls Tryz.prog 139 #[.bool true,.int .i64 n] w fun e w'=>e=.returned (.tuple #[])∧w'=w:=by
 have hnot:∀ (x:Bool) (w:World),(Op.unary .not (.bool x)).run Tryz.prog w=.ok (.bool (!x)) w:=fun _ _=>rfl
 go_enter Tryz.func139,Tryz.ntmps139
 go_wp2
 go_end0
 exact⟨rfl,rfl⟩
theorem mdmust_yes (a:Option Addr)(n c:Nat)(w:World):Calls Tryz.prog 145 #[.slice a n c,.int .i64 0] w fun e w'=>e=.returned (.slice a n c)∧w'=w:=by
 have kn:=mdneed_yes 0
 go_enter Tryz.func145,Tryz.ntmps145
 go_wp2_with (go_at_call 139;refine (kn _).mono ?_;rintro e w' ⟨rfl,rfl⟩)
 go_ret
 exact⟨rfl,rfl⟩
theorem mdcaught_nil (w:World):Calls Tryz.prog 74 #[.nilIface] w fun e w'=>e=.returned (.int .i64 0)∧w'=w:=by
 go_enter Tryz.func74,Tryz.ntmps74
 go_wp2
 go_ret
 exact⟨rfl,rfl⟩
theorem catch_idle43 (p:Addr)(x:Int)(w:World)(hc:w.cell? p=some (.int .i64 x))(hz:w.frozen? p=false) :
  CallsD Tryz.prog 73 #[.pointer (some p)] .returning w fun e u' w'=>e=.returned (.tuple #[])∧u'=.returning∧w'=w.setCell p (.int .i64 0):=by
 refine callsD_of_wpS Tryz.func73 rfl fun c₀ cs hu=>?_
 have r22:∀ args w,(callFunc 74 args).run Tryz.prog w=.ok (.enter 74 args) w:=eNo Tryz.func74 (by kernel_rfl) rfl
 apply wpS_region
 simp[wpOpsS,go_sem,recoverD,hu,Tryz.ntmps73,Exit.thenS,r22,Oper.upon]
 refine (mdcaught_nil w).mono ?_
 rintro e w' ⟨rfl,rfl⟩
 cases c₀
 simp_all [wpOpsS,go_sem,hc,hz,bodyPostS,results,Tryz.results73,Oper.upon]
theorem catch_idle45 (p:Addr)(x:Int)(w:World)(hc:w.cell? p=some (.int .i64 x))(hz:w.frozen? p=false) :
  CallsD Tryz.prog 156 #[.pointer (some p)] .returning w fun e u' w'=>e=.returned (.tuple #[])∧u'=.returning∧w'=w.setCell p (.int .i64 0):=by
 refine callsD_of_wpS Tryz.func156 rfl fun c₀ cs hu=>?_
 have r22:∀ args w,(callFunc 74 args).run Tryz.prog w=.ok (.enter 74 args) w:=eNo Tryz.func74 (by kernel_rfl) rfl
 apply wpS_region
 simp[wpOpsS,go_sem,recoverD,hu,Tryz.ntmps156,Exit.thenS,r22,Oper.upon]
 refine (mdcaught_nil w).mono ?_
 rintro e w' ⟨rfl,rfl⟩
 cases c₀
 simp_all [wpOpsS,go_sem,hc,hz,bodyPostS,results,Tryz.results156,Oper.upon]
theorem mdmustM_yes (d h l v u x t n:Int)(E L N O:SL)(w:World):Calls Tryz.prog 106 #[.agg #[.int .i64 d,.int .i64 h,.int .i64 l,.int .i64 v,.int .i64 u,.int .i64 x,.int .i64 t,.int .i64 n,.slice E.a E.n E.c,.slice L.a L.n L.c,.slice N.a N.n N.c,.slice O.a O.n O.c],.int .i64 0] w fun e w'=>e=.returned (.agg #[.int .i64 d,.int .i64 h,.int .i64 l,.int .i64 v,.int .i64 u,.int .i64 x,.int .i64 t,.int .i64 n,.slice E.a E.n E.c,.slice L.a L.n L.c,.slice N.a N.n N.c,.slice O.a O.n O.c])∧Below w.heap.size w w':=by
 have kn:=mdneed_yes 0
 have hb:=bNw (bNw (Below.refl w.heap.size w) (.cells #[.int .i64 d,.int .i64 h,.int .i64 l,.int .i64 v,.int .i64 u,.int .i64 x,.int .i64 t,.int .i64 n,.slice E.a E.n E.c,.slice L.a L.n L.c,.slice N.a N.n N.c,.slice O.a O.n O.c] 34)) (.cells #[.int .i64 0,.int .i64 0,.int .i64 0,.int .i64 0,.int .i64 0,.int .i64 0,.int .i64 0,.int .i64 0,.slice none 0 0,.slice none 0 0,.slice none 0 0,.slice none 0 0] 34)
 have q1:Blk 34 ((w.alloc (.cells #[.int .i64 d,.int .i64 h,.int .i64 l,.int .i64 v,.int .i64 u,.int .i64 x,.int .i64 t,.int .i64 n,.slice E.a E.n E.c,.slice L.a L.n L.c,.slice N.a N.n N.c,.slice O.a O.n O.c] 34)).alloc (.cells #[.int .i64 d,.int .i64 h,.int .i64 l,.int .i64 v,.int .i64 u,.int .i64 x,.int .i64 t,.int .i64 n,.slice E.a E.n E.c,.slice L.a L.n L.c,.slice N.a N.n N.c,.slice O.a O.n O.c] 34)) (w.heap.size+1) #[.int .i64 d,.int .i64 h,.int .i64 l,.int .i64 v,.int .i64 u,.int .i64 x,.int .i64 t,.int .i64 n,.slice E.a E.n E.c,.slice L.a L.n L.c,.slice N.a N.n N.c,.slice O.a O.n O.c]:=Blk.new_at 34 (w.alloc _) _ _ (by simp)
 have hb':=bNw (bNw (Below.refl w.heap.size w) (.cells #[.int .i64 d,.int .i64 h,.int .i64 l,.int .i64 v,.int .i64 u,.int .i64 x,.int .i64 t,.int .i64 n,.slice E.a E.n E.c,.slice L.a L.n L.c,.slice N.a N.n N.c,.slice O.a O.n O.c] 34)) (.cells #[.int .i64 d,.int .i64 h,.int .i64 l,.int .i64 v,.int .i64 u,.int .i64 x,.int .i64 t,.int .i64 n,.slice E.a E.n E.c,.slice L.a L.n L.c,.slice N.a N.n N.c,.slice O.a O.n O.c] 34)
 have HQ:=hdn q1
 clear q1 hb
 go_enter Tryz.func106,Tryz.ntmps106
 go_wp2_with (go_at_call 139;refine (kn _).mono ?_;rintro e w' ⟨rfl,rfl⟩)
 obtain⟨y0,y1,y2,y3,y4,y5,y6,y7,y8,y9,y10,y11⟩:=HQ.out.c12
 refine bodyPost_ret (v:=.agg #[.int .i64 d,.int .i64 h,.int .i64 l,.int .i64 v,.int .i64 u,.int .i64 x,.int .i64 t,.int .i64 n,.slice E.a E.n E.c,.slice L.a L.n L.c,.slice N.a N.n N.c,.slice O.a O.n O.c]) ?_ rfl ⟨rfl,hb'⟩
 simp[results,Tryz.results106,go_sem,y0,y1,y2,y3,y4,y5,y6,y7,y8,y9,y10,y11]
theorem mdmustA_yes (R S:Int)(L:SL)(w:World):Calls Tryz.prog 108 #[.agg #[.int .i64 R,.int .i64 S,.slice L.a L.n L.c],.int .i64 0] w fun e w'=>e=.returned (.agg #[.int .i64 R,.int .i64 S,.slice L.a L.n L.c])∧Below w.heap.size w w':=by
 have kn:=mdneed_yes 0
 have hb:=bNw (bNw (Below.refl w.heap.size w) (.cells #[.int .i64 R,.int .i64 S,.slice L.a L.n L.c] 37)) (.cells #[.int .i64 0,.int .i64 0,.slice none 0 0] 37)
 have q1:Blk 37 ((w.alloc (.cells #[.int .i64 R,.int .i64 S,.slice L.a L.n L.c] 37)).alloc (.cells #[.int .i64 R,.int .i64 S,.slice L.a L.n L.c] 37)) (w.heap.size+1) #[.int .i64 R,.int .i64 S,.slice L.a L.n L.c]:=Blk.new_at 37 (w.alloc _) _ _ (by simp)
 have hb':=bNw (bNw (Below.refl w.heap.size w) (.cells #[.int .i64 R,.int .i64 S,.slice L.a L.n L.c] 37)) (.cells #[.int .i64 R,.int .i64 S,.slice L.a L.n L.c] 37)
 have HQ:=hdn q1
 clear q1 hb
 go_enter Tryz.func108,Tryz.ntmps108
 go_wp2_with (go_at_call 139;refine (kn _).mono ?_;rintro e w' ⟨rfl,rfl⟩)
 obtain⟨y0,y1,y2⟩:=HQ.out.c3
 refine bodyPost_ret (v:=.agg #[.int .i64 R,.int .i64 S,.slice L.a L.n L.c]) ?_ rfl ⟨rfl,hb'⟩
 simp[results,Tryz.results108,go_sem,y0,y1,y2]
def Kept2 (N:Nat)(D:Nat→Option Nat)(a0:Act)(l:Nat→Bool)(a:Act):Prop:=∀ s,(∀ i,i<N→l i=true→D i≠some s)→a.tmps.getD s undef=a0.tmps.getD s undef
theorem kept2_start (N:Nat)(D:Nat→Option Nat)(a0:Act):Kept2 N D a0 (fun _=>false) a0:=fun _ _=>rfl
theorem Kept2.put {N:Nat}{D:Nat→Option Nat}{a0:Act}{l:Nat→Bool}{a:Act}(h:Kept2 N D a0 l a){i d:Nat}{v:Value}(hD:D i=some d)(hd:d<a.tmps.size)(hi:i<N:=by decide):Kept2 N D a0 (fun j=>l j || j==i) (a.put (some d) v):=fun s hs=>by
 rw[get_put a d v s hd,if_neg (fun e=>hs i hi (by simp) (by rw[e];exact hD))]
 exact h s (fun j hj hl=>hs j hj (by simp[hl]))
theorem run_field23 (b f:Nat)(hf:f<8)(w:World):(Instr.fieldAt 23 (.pointer (some ⟨b,0,none⟩)) f).run Tryz.prog w=.ok (.pointer (some ⟨b,f,none⟩)) w:=by
 rcases (show f=0∨f=1∨f=2∨f=3∨f=4∨f=5∨f=6∨f=7 by omega) with rfl|rfl|rfl|rfl|rfl|rfl|rfl|rfl<;>go_simp
def lhD (i:Nat):Option Nat:=match i with|0=>some 101|1=>some 102|2=>some 103|3=>some 104|4=>some 105|5=>some 106|6=>some 107|7=>some 108|8=>some 109|9=>some 110|10=>some 111|11=>some 112|12=>some 113|13=>some 114|14=>some 115|15=>some 116|16=>some 117|17=>some 10|18=>some 11|19=>some 12|_=>none
theorem lhD_inj:∀ i,i<20→∀ j,j<20→lhD i=lhD j→lhD i≠none→i=j:=by decide
theorem lhD_lt:∀ i,i<20→∀ d,lhD i=some d→d<118:=by
 intro i hi d h
 have:∀ i,i<20→(lhD i).all (fun d=>decide (d<118))=true:=by decide
 have:=this i hi
 rw[h] at this
 simpa using this
def lhF (cb D0 qc kc vc:Nat)(qa ka va:Option Addr)(hh p:Int)(OQ OK:List Int)(i:Nat)(q:Value)(w:World):Prop:=match i with
 | 0=>q=.slice qa D0 qc
 | 1=>q=.pointer (some ⟨cb,1,none⟩)
 | 2=>q=.int .i64 hh
 | 3=>q=.int .i64 p
 | 4=>∃ b bc,q=.tuple #[.slice b D0 bc,.int .i64 0]∧Reads .i64 w b D0 OQ∧D0≤bc
 | 5=>∃ b bc,q=.slice b D0 bc∧Reads .i64 w b D0 OQ∧D0≤bc
 | 6=>q=.int .i64 0
 | 7=>∃ b bc,q=.slice b D0 bc∧Reads .i64 w b D0 OQ∧D0≤bc
 | 8=>q=.slice ka D0 kc
 | 9=>q=.pointer (some ⟨cb,1,none⟩)
 | 10=>q=.int .i64 hh
 | 11=>q=.int .i64 p
 | 12=>∃ b bc,q=.tuple #[.slice b D0 bc,.int .i64 0]∧Reads .i64 w b D0 OK∧D0≤bc
 | 13=>∃ b bc,q=.slice b D0 bc∧Reads .i64 w b D0 OK∧D0≤bc
 | 14=>q=.int .i64 0
 | 15=>∃ b bc,q=.slice b D0 bc∧Reads .i64 w b D0 OK∧D0≤bc
 | 16=>q=.slice va D0 vc
 | 17=>∃ b bc,q=.slice b D0 bc∧Reads .i64 w b D0 OQ∧D0≤bc
 | 18=>∃ b bc,q=.slice b D0 bc∧Reads .i64 w b D0 OK∧D0≤bc
 | 19=>q=.slice va D0 vc
 | _=>True
theorem lhF_below {cb D0 qc kc vc:Nat}{qa ka va:Option Addr}{hh p:Int}{OQ OK:List Int}{i:Nat}{q:Value}{w w':World}(h:lhF cb D0 qc kc vc qa ka va hh p OQ OK i q w)(hb:Below w.heap.size w w'):lhF cb D0 qc kc vc qa ka va hh p OQ OK i q w':=by
 unfold lhF at h ⊢
 split
 ·exact h
 ·exact h
 ·exact h
 ·exact h
 ·obtain⟨b,bc,h1,h2,h3⟩:=h;exact⟨b,bc,h1,h2.below hb,h3⟩
 ·obtain⟨b,bc,h1,h2,h3⟩:=h;exact⟨b,bc,h1,h2.below hb,h3⟩
 ·exact h
 ·obtain⟨b,bc,h1,h2,h3⟩:=h;exact⟨b,bc,h1,h2.below hb,h3⟩
 ·exact h
 ·exact h
 ·exact h
 ·exact h
 ·obtain⟨b,bc,h1,h2,h3⟩:=h;exact⟨b,bc,h1,h2.below hb,h3⟩
 ·obtain⟨b,bc,h1,h2,h3⟩:=h;exact⟨b,bc,h1,h2.below hb,h3⟩
 ·exact h
 ·obtain⟨b,bc,h1,h2,h3⟩:=h;exact⟨b,bc,h1,h2.below hb,h3⟩
 ·exact h
 ·obtain⟨b,bc,h1,h2,h3⟩:=h;exact⟨b,bc,h1,h2.below hb,h3⟩
 ·obtain⟨b,bc,h1,h2,h3⟩:=h;exact⟨b,bc,h1,h2.below hb,h3⟩
 ·exact h
 ·trivial
theorem lh_region {id:Nat}{ops:Array Oper}{Q:Exit→Act→World→Prop}{a0:Act}{w0:World}(cb D0 qc kc vc:Nat)(qa ka va:Option Addr)(hh p:Int)(OQ OK:List Int)(S:World→Prop)(hlow:lowB ops=true)(hsz:ops.size=20)
  (o0:OpIn ops 0 (some 101) (.move (.tmp 10)) none []) (o1:OpIn ops 1 (some 102) (.fieldAddr 23 (.tmp 13) 1) none []) (o2:OpIn ops 2 (some 103) (.load 3 (.tmp 102)) none [1]) (o3:OpIn ops 3 (some 104) (.move (.tmp 3)) none []) (o4:OpIn ops 4 (some 105) (.call { callee:=.value (.func 176),args:=#[.tmp 101,.tmp 103,.tmp 104],argTypes:=#[70,3,3] }) none [0,2,3]) (o5:OpIn ops 5 (some 106) (.extract (.tmp 105) 0) none [4]) (o6:OpIn ops 6 (some 107) (.extract (.tmp 105) 1) none [4]) (o7:OpIn ops 7 (some 108) (.call { callee:=.value (.func 145),args:=#[.tmp 106,.tmp 107],argTypes:=#[70,40] }) none [5,6]) (o8:OpIn ops 8 (some 109) (.move (.tmp 11)) none []) (o9:OpIn ops 9 (some 110) (.fieldAddr 23 (.tmp 13) 1) none []) (o10:OpIn ops 10 (some 111) (.load 3 (.tmp 110)) none [9]) (o11:OpIn ops 11 (some 112) (.move (.tmp 3)) none []) (o12:OpIn ops 12 (some 113) (.call { callee:=.value (.func 176),args:=#[.tmp 109,.tmp 111,.tmp 112],argTypes:=#[70,3,3] }) none [8,10,11]) (o13:OpIn ops 13 (some 114) (.extract (.tmp 113) 0) none [12]) (o14:OpIn ops 14 (some 115) (.extract (.tmp 113) 1) none [12]) (o15:OpIn ops 15 (some 116) (.call { callee:=.value (.func 145),args:=#[.tmp 114,.tmp 115],argTypes:=#[70,40] }) none [13,14]) (o16:OpIn ops 16 (some 117) (.move (.tmp 12)) none []) (o17:OpIn ops 17 (some 10) (.assign (.tmp 108)) none [0,7]) (o18:OpIn ops 18 (some 11) (.assign (.tmp 116)) none [8,15]) (o19:OpIn ops 19 (some 12) (.assign (.tmp 117)) none [16])
  (hS:S w0.drew)
  (x1:∀ w,(Instr.fieldAt 23 (.pointer (some ⟨cb,0,none⟩)) 1).run Tryz.prog w=.ok (.pointer (some ⟨cb,1,none⟩)) w)
  (x2:∀ w,S w→(Instr.loadAt 3 (.pointer (some ⟨cb,1,none⟩))).run Tryz.prog w=.ok (.int .i64 hh) w)
  (x4:∀ w,S w→Calls Tryz.prog 176 #[.slice qa D0 qc,.int .i64 hh,.int .i64 p] w fun e w'=>∃ b bc,e=.returned (.tuple #[.slice b D0 bc,.int .i64 0])∧Reads .i64 w' b D0 OQ∧D0≤bc∧Below w.heap.size w w'∧S w')
  (x7:True)
  (x9:∀ w,(Instr.fieldAt 23 (.pointer (some ⟨cb,0,none⟩)) 1).run Tryz.prog w=.ok (.pointer (some ⟨cb,1,none⟩)) w)
  (x10:∀ w,S w→(Instr.loadAt 3 (.pointer (some ⟨cb,1,none⟩))).run Tryz.prog w=.ok (.int .i64 hh) w)
  (x12:∀ w,S w→Calls Tryz.prog 176 #[.slice ka D0 kc,.int .i64 hh,.int .i64 p] w fun e w'=>∃ b bc,e=.returned (.tuple #[.slice b D0 bc,.int .i64 0])∧Reads .i64 w' b D0 OK∧D0≤bc∧Below w.heap.size w w'∧S w')
  (x15:True)
  (u3:a0.tmps.getD 3 undef=.int .i64 p)
  (u10:a0.tmps.getD 10 undef=.slice qa D0 qc)
  (u11:a0.tmps.getD 11 undef=.slice ka D0 kc)
  (u12:a0.tmps.getD 12 undef=.slice va D0 vc)
  (u13:a0.tmps.getD 13 undef=.pointer (some ⟨cb,0,none⟩))
  (hs:118≤a0.tmps.size)
  (fin:∀ a w,a.tmps.size=a0.tmps.size→a.defers=a0.defers→(∀ s,(∀ i,i<20→lhD i≠some s)→a.tmps.getD s undef=a0.tmps.getD s undef)→S w→(∀ i d,i<20→lhD i=some d→lhF cb D0 qc kc vc qa ka va hh p OQ OK i (a.tmps.getD d undef) w)→Q .normal a w):(Code.region id ops true).wp Tryz.prog Q a0 w0:=by
 have r48:∀ args w,(callFunc 145 args).run Tryz.prog w=.ok (.enter 145 args) w:=eNo Tryz.func145 (by kernel_rfl) rfl
 have r95:∀ args w,(callFunc 176 args).run Tryz.prog w=.ok (.enter 176 args) w:=eNo Tryz.func176 (by kernel_rfl) rfl
 refine wRi (by kernel_rfl) hlow (Inv 20 lhD a0 (fun l a w=>S w∧Kept2 20 lhD a0 l a) (fun _=>lhF cb D0 qc kc vc qa ka va hh p OQ OK)) (Inv.start ⟨hS,kept2_start _ _ _⟩) ?_ ?_
 ·intro l i o a w ho hl hcl hdep hI
  have hi:i<20:=by rw[←hsz];exact (Array.getElem?_eq_some_iff.1 ho).1
  have ev:∀ (s:Nat),a.eval (.tmp s)=a.tmps.getD s undef:=fun _=>rfl
  have evf:∀ f,a.eval (.func f)=.func (.func f) #[] #[]:=fun _=>rfl
  have evc:∀ c:Value,a.eval (.const c)=c:=fun _=>rfl
  have inj:∀ d,lhD i=some d→∀ j d',j<20→lhD j=some d'→j≠i→d'≠d:=fun d hd j d' hj hd' hne e=>hne (lhD_inj j hj i hi (by rw[hd',hd,e]) (by rw[hd'];simp))
  have kp:∀ s,(∀ i,i<20→lhD i≠some s)→a.tmps.getD s undef=a0.tmps.getD s undef:=hI.kept
  have hw:S w:=hI.world.1
  have k2:=hI.world.2
  have ex0:=hI.world.2
  have go:∀ {d:Nat}{v:Value}{w':World},lhD i=some d→Below w.heap.size w w'→S w'→lhF cb D0 qc kc vc qa ka va hh p OQ OK i v w'→Inv 20 lhD a0 (fun l a w=>S w∧Kept2 20 lhD a0 l a) (fun _=>lhF cb D0 qc kc vc qa ka va hh p OQ OK) (fun j=>l j || j==i) (a.put (some d) v) w':=by
   intro d v w' hD hb hS' hF
   exact hI.put hi hD (Nat.lt_of_lt_of_le (lhD_lt i hi d hD) hs) (inj d hD) ⟨hS',k2.put hD (by rw[hI.size];exact Nat.lt_of_lt_of_le (lhD_lt i hi d hD) hs) hi⟩ hF (fun j u _ _ _ hf=>lhF_below hf hb)
  rcases (show i=0∨i=1∨i=2∨i=3∨i=4∨i=5∨i=6∨i=7∨i=8∨i=9∨i=10∨i=11∨i=12∨i=13∨i=14∨i=15∨i=16∨i=17∨i=18∨i=19 by omega) with rfl|rfl|rfl|rfl|rfl|rfl|rfl|rfl|rfl|rfl|rfl|rfl|rfl|rfl|rfl|rfl|rfl|rfl|rfl|rfl
  ·obtain⟨o',e1,e2,e3,e4,e5⟩:=o0
   obtain rfl:=sOp ho e1
   have dp:=dPo e5 hdep
   have U10:a.tmps.getD 10 undef=.slice qa D0 qc:=(k2 10 (fun j hj hjl e=>by
    obtain rfl:=lhD_inj j hj 17 (by decide) (e.trans rfl) (by rw[e];simp)
    have y0:=hcl.dep' o17 hjl 0 (by decide)
    rw[hl] at y0
    cases y0)).trans u10
   exact wVa (v:=.slice qa D0 qc) (w':=w) ho e4 (by simp[execOp,e3,ev,evc,U10]) (by rw[e2];exact go rfl (Below.refl _ _) hw rfl)
  ·obtain⟨o',e1,e2,e3,e4,e5⟩:=o1
   obtain rfl:=sOp ho e1
   have dp:=dPo e5 hdep
   have U13:a.tmps.getD 13 undef=.pointer (some ⟨cb,0,none⟩):=(kp 13 (by decide)).trans u13
   exact wVa (v:=.pointer (some ⟨cb,1,none⟩)) (w':=w) ho e4 (by simp[execOp,e3,ev,evc,U13,x1 w]) (by rw[e2];exact go rfl (Below.refl _ _) hw rfl)
  ·obtain⟨o',e1,e2,e3,e4,e5⟩:=o2
   obtain rfl:=sOp ho e1
   have dp:=dPo e5 hdep
   have V1:a.tmps.getD 102 undef=.pointer (some ⟨cb,1,none⟩):=hI.val 1 102 (by decide) rfl (dp 1 (by decide))
   exact wVa (v:=.int .i64 hh) (w':=w) ho e4 (by simp[execOp,e3,ev,evc,V1,x2 w hw]) (by rw[e2];exact go rfl (Below.refl _ _) hw rfl)
  ·obtain⟨o',e1,e2,e3,e4,e5⟩:=o3
   obtain rfl:=sOp ho e1
   have dp:=dPo e5 hdep
   have U3:a.tmps.getD 3 undef=.int .i64 p:=(kp 3 (by decide)).trans u3
   exact wVa (v:=.int .i64 p) (w':=w) ho e4 (by simp[execOp,e3,ev,evc,U3]) (by rw[e2];exact go rfl (Below.refl _ _) hw rfl)
  ·obtain⟨o',e1,e2,e3,e4,e5⟩:=o4
   obtain rfl:=sOp ho e1
   have dp:=dPo e5 hdep
   have V0:a.tmps.getD 101 undef=.slice qa D0 qc:=hI.val 0 101 (by decide) rfl (dp 0 (by decide))
   have V2:a.tmps.getD 103 undef=.int .i64 hh:=hI.val 2 103 (by decide) rfl (dp 2 (by decide))
   have V3:a.tmps.getD 104 undef=.int .i64 p:=hI.val 3 104 (by decide) rfl (dp 3 (by decide))
   refine wCa (f:=176) (args:=#[.slice qa D0 qc,.int .i64 hh,.int .i64 p]) ho e4 (by simp[execOp,e3,resolve,invoke,Deferred.ofValue,r95,ev,evf,evc,V0,V2,V3]) ((x4 w hw).mono ?_)
   rintro e W' ⟨b,bc,rfl,hr6,hz6,hb6,hs6⟩
   refine⟨_,rfl,?_⟩
   rw[e2]
   exact go rfl hb6 hs6 ⟨b,bc,rfl,hr6,hz6⟩
  ·obtain⟨o',e1,e2,e3,e4,e5⟩:=o5
   obtain rfl:=sOp ho e1
   have dp:=dPo e5 hdep
   obtain⟨b4,c4,V4,f4,z4⟩:∃ b bc,a.tmps.getD 105 undef=.tuple #[.slice b D0 bc,.int .i64 0]∧Reads .i64 w b D0 OQ∧D0≤bc:=hI.val 4 105 (by decide) rfl (dp 4 (by decide))
   exact wVa (v:=.slice b4 D0 c4) (w':=w) ho e4 (by simp[execOp,e3,ev,evc,V4,Instr.extract]) (by rw[e2];exact go rfl (Below.refl _ _) hw ⟨_,_,rfl,f4,z4⟩)
  ·obtain⟨o',e1,e2,e3,e4,e5⟩:=o6
   obtain rfl:=sOp ho e1
   have dp:=dPo e5 hdep
   obtain⟨b4,c4,V4,f4,z4⟩:∃ b bc,a.tmps.getD 105 undef=.tuple #[.slice b D0 bc,.int .i64 0]∧Reads .i64 w b D0 OQ∧D0≤bc:=hI.val 4 105 (by decide) rfl (dp 4 (by decide))
   exact wVa (v:=.int .i64 0) (w':=w) ho e4 (by simp[execOp,e3,ev,evc,V4,Instr.extract]) (by rw[e2];exact go rfl (Below.refl _ _) hw rfl)
  ·obtain⟨o',e1,e2,e3,e4,e5⟩:=o7
   obtain rfl:=sOp ho e1
   have dp:=dPo e5 hdep
   obtain⟨b5,c5,V5,f5,z5⟩:∃ b bc,a.tmps.getD 106 undef=.slice b D0 bc∧Reads .i64 w b D0 OQ∧D0≤bc:=hI.val 5 106 (by decide) rfl (dp 5 (by decide))
   have V6:a.tmps.getD 107 undef=.int .i64 0:=hI.val 6 107 (by decide) rfl (dp 6 (by decide))
   refine wCa (f:=145) (args:=#[.slice b5 D0 c5,.int .i64 0]) ho e4 (by simp[execOp,e3,resolve,invoke,Deferred.ofValue,r48,ev,evf,evc,V5,V6]) ((mdmust_yes _ _ _ w).mono ?_)
   rintro e W' ⟨rfl,hq6⟩
   refine⟨_,rfl,?_⟩
   rw[e2]
   exact go rfl (by rw[hq6];exact Below.refl _ _) (by rw[hq6];exact hw) ⟨_,_,rfl,(by rw[hq6];exact f5),z5⟩
  ·obtain⟨o',e1,e2,e3,e4,e5⟩:=o8
   obtain rfl:=sOp ho e1
   have dp:=dPo e5 hdep
   have U11:a.tmps.getD 11 undef=.slice ka D0 kc:=(k2 11 (fun j hj hjl e=>by
    obtain rfl:=lhD_inj j hj 18 (by decide) (e.trans rfl) (by rw[e];simp)
    have y0:=hcl.dep' o18 hjl 8 (by decide)
    rw[hl] at y0
    cases y0)).trans u11
   exact wVa (v:=.slice ka D0 kc) (w':=w) ho e4 (by simp[execOp,e3,ev,evc,U11]) (by rw[e2];exact go rfl (Below.refl _ _) hw rfl)
  ·obtain⟨o',e1,e2,e3,e4,e5⟩:=o9
   obtain rfl:=sOp ho e1
   have dp:=dPo e5 hdep
   have U13:a.tmps.getD 13 undef=.pointer (some ⟨cb,0,none⟩):=(kp 13 (by decide)).trans u13
   exact wVa (v:=.pointer (some ⟨cb,1,none⟩)) (w':=w) ho e4 (by simp[execOp,e3,ev,evc,U13,x9 w]) (by rw[e2];exact go rfl (Below.refl _ _) hw rfl)
  ·obtain⟨o',e1,e2,e3,e4,e5⟩:=o10
   obtain rfl:=sOp ho e1
   have dp:=dPo e5 hdep
   have V9:a.tmps.getD 110 undef=.pointer (some ⟨cb,1,none⟩):=hI.val 9 110 (by decide) rfl (dp 9 (by decide))
   exact wVa (v:=.int .i64 hh) (w':=w) ho e4 (by simp[execOp,e3,ev,evc,V9,x10 w hw]) (by rw[e2];exact go rfl (Below.refl _ _) hw rfl)
  ·obtain⟨o',e1,e2,e3,e4,e5⟩:=o11
   obtain rfl:=sOp ho e1
   have dp:=dPo e5 hdep
   have U3:a.tmps.getD 3 undef=.int .i64 p:=(kp 3 (by decide)).trans u3
   exact wVa (v:=.int .i64 p) (w':=w) ho e4 (by simp[execOp,e3,ev,evc,U3]) (by rw[e2];exact go rfl (Below.refl _ _) hw rfl)
  ·obtain⟨o',e1,e2,e3,e4,e5⟩:=o12
   obtain rfl:=sOp ho e1
   have dp:=dPo e5 hdep
   have V8:a.tmps.getD 109 undef=.slice ka D0 kc:=hI.val 8 109 (by decide) rfl (dp 8 (by decide))
   have V10:a.tmps.getD 111 undef=.int .i64 hh:=hI.val 10 111 (by decide) rfl (dp 10 (by decide))
   have V11:a.tmps.getD 112 undef=.int .i64 p:=hI.val 11 112 (by decide) rfl (dp 11 (by decide))
   refine wCa (f:=176) (args:=#[.slice ka D0 kc,.int .i64 hh,.int .i64 p]) ho e4 (by simp[execOp,e3,resolve,invoke,Deferred.ofValue,r95,ev,evf,evc,V8,V10,V11]) ((x12 w hw).mono ?_)
   rintro e W' ⟨b,bc,rfl,hr6,hz6,hb6,hs6⟩
   refine⟨_,rfl,?_⟩
   rw[e2]
   exact go rfl hb6 hs6 ⟨b,bc,rfl,hr6,hz6⟩
  ·obtain⟨o',e1,e2,e3,e4,e5⟩:=o13
   obtain rfl:=sOp ho e1
   have dp:=dPo e5 hdep
   obtain⟨b12,c12,V12,f12,z12⟩:∃ b bc,a.tmps.getD 113 undef=.tuple #[.slice b D0 bc,.int .i64 0]∧Reads .i64 w b D0 OK∧D0≤bc:=hI.val 12 113 (by decide) rfl (dp 12 (by decide))
   exact wVa (v:=.slice b12 D0 c12) (w':=w) ho e4 (by simp[execOp,e3,ev,evc,V12,Instr.extract]) (by rw[e2];exact go rfl (Below.refl _ _) hw ⟨_,_,rfl,f12,z12⟩)
  ·obtain⟨o',e1,e2,e3,e4,e5⟩:=o14
   obtain rfl:=sOp ho e1
   have dp:=dPo e5 hdep
   obtain⟨b12,c12,V12,f12,z12⟩:∃ b bc,a.tmps.getD 113 undef=.tuple #[.slice b D0 bc,.int .i64 0]∧Reads .i64 w b D0 OK∧D0≤bc:=hI.val 12 113 (by decide) rfl (dp 12 (by decide))
   exact wVa (v:=.int .i64 0) (w':=w) ho e4 (by simp[execOp,e3,ev,evc,V12,Instr.extract]) (by rw[e2];exact go rfl (Below.refl _ _) hw rfl)
  ·obtain⟨o',e1,e2,e3,e4,e5⟩:=o15
   obtain rfl:=sOp ho e1
   have dp:=dPo e5 hdep
   obtain⟨b13,c13,V13,f13,z13⟩:∃ b bc,a.tmps.getD 114 undef=.slice b D0 bc∧Reads .i64 w b D0 OK∧D0≤bc:=hI.val 13 114 (by decide) rfl (dp 13 (by decide))
   have V14:a.tmps.getD 115 undef=.int .i64 0:=hI.val 14 115 (by decide) rfl (dp 14 (by decide))
   refine wCa (f:=145) (args:=#[.slice b13 D0 c13,.int .i64 0]) ho e4 (by simp[execOp,e3,resolve,invoke,Deferred.ofValue,r48,ev,evf,evc,V13,V14]) ((mdmust_yes _ _ _ w).mono ?_)
   rintro e W' ⟨rfl,hq6⟩
   refine⟨_,rfl,?_⟩
   rw[e2]
   exact go rfl (by rw[hq6];exact Below.refl _ _) (by rw[hq6];exact hw) ⟨_,_,rfl,(by rw[hq6];exact f13),z13⟩
  ·obtain⟨o',e1,e2,e3,e4,e5⟩:=o16
   obtain rfl:=sOp ho e1
   have dp:=dPo e5 hdep
   have U12:a.tmps.getD 12 undef=.slice va D0 vc:=(k2 12 (fun j hj hjl e=>by
    obtain rfl:=lhD_inj j hj 19 (by decide) (e.trans rfl) (by rw[e];simp)
    have y0:=hcl.dep' o19 hjl 16 (by decide)
    rw[hl] at y0
    cases y0)).trans u12
   exact wVa (v:=.slice va D0 vc) (w':=w) ho e4 (by simp[execOp,e3,ev,evc,U12]) (by rw[e2];exact go rfl (Below.refl _ _) hw rfl)
  ·obtain⟨o',e1,e2,e3,e4,e5⟩:=o17
   obtain rfl:=sOp ho e1
   have dp:=dPo e5 hdep
   have V0:a.tmps.getD 101 undef=.slice qa D0 qc:=hI.val 0 101 (by decide) rfl (dp 0 (by decide))
   obtain⟨b7,c7,V7,f7,z7⟩:∃ b bc,a.tmps.getD 108 undef=.slice b D0 bc∧Reads .i64 w b D0 OQ∧D0≤bc:=hI.val 7 108 (by decide) rfl (dp 7 (by decide))
   exact wVa (v:=.slice b7 D0 c7) (w':=w) ho e4 (by simp[execOp,e3,ev,evc,V0,V7]) (by rw[e2];exact go rfl (Below.refl _ _) hw ⟨_,_,rfl,f7,z7⟩)
  ·obtain⟨o',e1,e2,e3,e4,e5⟩:=o18
   obtain rfl:=sOp ho e1
   have dp:=dPo e5 hdep
   have V8:a.tmps.getD 109 undef=.slice ka D0 kc:=hI.val 8 109 (by decide) rfl (dp 8 (by decide))
   obtain⟨b15,c15,V15,f15,z15⟩:∃ b bc,a.tmps.getD 116 undef=.slice b D0 bc∧Reads .i64 w b D0 OK∧D0≤bc:=hI.val 15 116 (by decide) rfl (dp 15 (by decide))
   exact wVa (v:=.slice b15 D0 c15) (w':=w) ho e4 (by simp[execOp,e3,ev,evc,V8,V15]) (by rw[e2];exact go rfl (Below.refl _ _) hw ⟨_,_,rfl,f15,z15⟩)
  ·obtain⟨o',e1,e2,e3,e4,e5⟩:=o19
   obtain rfl:=sOp ho e1
   have dp:=dPo e5 hdep
   have V16:a.tmps.getD 117 undef=.slice va D0 vc:=hI.val 16 117 (by decide) rfl (dp 16 (by decide))
   exact wVa (v:=.slice va D0 vc) (w':=w) ho e4 (by simp[execOp,e3,ev,evc,V16]) (by rw[e2];exact go rfl (Below.refl _ _) hw rfl)
 ·intro l a w hall hI
  have all:∀ j,j<20→l j=true:=fun j hj=>hall j (by rw[hsz];exact hj)
  exact fin a w hI.size hI.defers hI.kept hI.world.1 (fun i d hi hD=>hI.val i d hi hD (all i hi))
theorem akcheck_call (c:Cq)(q:Aq)(zs:List Int)(w:World)(hr:Reads .i64 w q.a q.n zs) :
  Calls Tryz.prog 35 #[c.w,q.w] w fun e w'=>e=.returned (.int .i64 (checkZ c q zs))∧Below w.heap.size w w':=by
 have hb:=bNw (bNw (Below.refl w.heap.size w) (.cells c.cs 23)) (.cells q.cs 28)
 have q0:Blk 23 ((w.alloc (.cells c.cs 23)).alloc (.cells q.cs 28)) w.heap.size c.cs:=(Blk.new 23 w _).kept (bNw (Below.refl _ _) _)
 have q1:Blk 28 ((w.alloc (.cells c.cs 23)).alloc (.cells q.cs 28)) (w.heap.size+1) q.cs:=by simpa using Blk.new 28 (w.alloc (.cells c.cs 23)) q.cs
 obtain⟨c0,c1,c2,c3,c4,c5,c6,c7⟩:=q0.cfg
 obtain⟨a0,a1,a2,a3,a4,a5,a6,a7,a8⟩:=q1.ask
 have ko:∀ W,Calls Tryz.prog 62 #[c.w] W fun e w'=>e=.returned (.bool c.ok)∧Below W.heap.size W w':=config_call c.d c.h c.l c.v c.u c.x c.t c.n
 have kp:=fun W (h:Below w.heap.size w W)=>prompt_call c q.a q.n q.c zs W (hr.below h)
 have kk:=kind_call c q
 have kl:=fun W=>long_call q W (by have:=hr.max;omega)
 unfold checkZ
 obtain⟨bo,hbo⟩:∃ b,c.ok=b:=⟨_,rfl⟩
 obtain⟨bp,hbp⟩:∃ b,promptZ c zs=b:=⟨_,rfl⟩
 obtain⟨bk,hbk⟩:∃ b,kindZ c q=b:=⟨_,rfl⟩
 obtain⟨bl,hbl⟩:∃ b,longZ q=b:=⟨_,rfl⟩
 simp only[hbo,hbp,hbk,hbl] at ko kp kk kl ⊢
 clear hbo hbp hbk hbl
 cases bo<;>cases bp<;>cases bk<;>cases bl <;>
 ·go_enter Tryz.func35,Tryz.ntmps35
  go_wp2_with (first
   | (go_at_call 62;refine (ko _).mono ?_;rintro e W1 ⟨rfl,h⟩;replace q0:=q0.kept h;replace q1:=q1.kept h;replace hb:=bTn hb h;clear h ko c0 c1 c2 c3 c4 c5 c6 c7 a0 a1 a2 a3 a4 a5 a6 a7 a8;obtain⟨c0,c1,c2,c3,c4,c5,c6,c7⟩:=q0.cfg;obtain⟨a0,a1,a2,a3,a4,a5,a6,a7,a8⟩:=q1.ask)
   | (go_at_call 63;refine (kp _ hb).mono ?_;rintro e W1 ⟨rfl,h⟩;replace q0:=q0.kept h;replace q1:=q1.kept h;replace hb:=bTn hb h;clear h kp c0 c1 c2 c3 c4 c5 c6 c7 a0 a1 a2 a3 a4 a5 a6 a7 a8;obtain⟨c0,c1,c2,c3,c4,c5,c6,c7⟩:=q0.cfg;obtain⟨a0,a1,a2,a3,a4,a5,a6,a7,a8⟩:=q1.ask)
   | (go_at_call 64;refine (kk _).mono ?_;rintro e W1 ⟨rfl,h⟩;replace q0:=q0.kept h;replace q1:=q1.kept h;replace hb:=bTn hb h;clear h kk c0 c1 c2 c3 c4 c5 c6 c7 a0 a1 a2 a3 a4 a5 a6 a7 a8;obtain⟨c0,c1,c2,c3,c4,c5,c6,c7⟩:=q0.cfg;obtain⟨a0,a1,a2,a3,a4,a5,a6,a7,a8⟩:=q1.ask)
   | (go_at_call 65;refine (kl _).mono ?_;rintro e W1 ⟨rfl,h⟩;replace hb:=bTn hb h;clear h kl))
  go_ret
  exact⟨rfl,hb⟩
end Go.Proofs.YtbkjhfmehemgpaaGreat
