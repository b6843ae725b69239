/- Texts put together: MdNeed, MdReg2, CkShp, CkShpFew. -/
import Derived.Test.YtbkjhfmehemgpaaGreatRows
import Derived.Test.YtbkjhfmehemgpaaGreatFa28
namespace Go.Proofs.YtbkjhfmehemgpaaGreat
set_option maxRecDepth 20000
set_option maxHeartbeats 16000000
open Go.ChangeShapes Go.WideShapes Go.ChangeAt Go.RowKit
set_option linter.unusedVariables false
set_option linter.unusedSimpArgs false
section
theorem mdneed_yes (n:Int) (w:World):Calls Tryz.prog 139 #[.bool true,.int .i64 n] w fun e w'=>e=.returned (.tuple #[])∧w'=w:=by
 have hnot:∀ (x:Bool) (w:World),(Op.unary .not (.bool x)).run Tryz.prog w=.ok (.bool (!x)) w:=fun _ _=>rfl
 go_enter Tryz.func139,Tryz.ntmps139
 go_wp2
 go_end0
 exact⟨rfl,rfl⟩
theorem mdmust_yes (a:Option Addr) (n c:Nat) (w:World):Calls Tryz.prog 145 #[.slice a n c,.int .i64 0] w fun e w'=>e=.returned (.slice a n c)∧w'=w:=by
 have kn:=mdneed_yes 0
 go_enter Tryz.func145,Tryz.ntmps145
 go_wp2_with (go_at_call 139;refine (kn _).mono ?_;rintro e w' ⟨rfl,rfl⟩)
 go_ret
 exact⟨rfl,rfl⟩
theorem mdcaught_nil (w:World):Calls Tryz.prog 74 #[.nilIface] w fun e w'=>e=.returned (.int .i64 0)∧w'=w:=by
 go_enter Tryz.func74,Tryz.ntmps74
 go_wp2
 go_ret
 exact⟨rfl,rfl⟩
theorem catch_idle43 (p:Addr) (x:Int) (w:World) (hc:w.cell? p=some (.int .i64 x)) (hz:w.frozen? p=false) :
  CallsD Tryz.prog 73 #[.pointer (some p)] .returning w fun e u' w'=>e=.returned (.tuple #[])∧u'=.returning∧w'=w.setCell p (.int .i64 0):=by
 refine callsD_of_wpS Tryz.func73 rfl fun c₀ cs hu=>?_
 have r22:∀ args w,(callFunc 74 args).run Tryz.prog w=.ok (.enter 74 args) w:=enters_of Tryz.func74 (by kernel_rfl) rfl
 apply wpS_region
 simp[wpOpsS,go_sem,recoverD,hu,Tryz.ntmps73,Exit.thenS,r22,Oper.upon]
 refine (mdcaught_nil w).mono ?_
 rintro e w' ⟨rfl,rfl⟩
 cases c₀
 simp_all [wpOpsS,go_sem,hc,hz,bodyPostS,results,Tryz.results73,Oper.upon]
theorem catch_idle45 (p:Addr) (x:Int) (w:World) (hc:w.cell? p=some (.int .i64 x)) (hz:w.frozen? p=false) :
  CallsD Tryz.prog 156 #[.pointer (some p)] .returning w fun e u' w'=>e=.returned (.tuple #[])∧u'=.returning∧w'=w.setCell p (.int .i64 0):=by
 refine callsD_of_wpS Tryz.func156 rfl fun c₀ cs hu=>?_
 have r22:∀ args w,(callFunc 74 args).run Tryz.prog w=.ok (.enter 74 args) w:=enters_of Tryz.func74 (by kernel_rfl) rfl
 apply wpS_region
 simp[wpOpsS,go_sem,recoverD,hu,Tryz.ntmps156,Exit.thenS,r22,Oper.upon]
 refine (mdcaught_nil w).mono ?_
 rintro e w' ⟨rfl,rfl⟩
 cases c₀
 simp_all [wpOpsS,go_sem,hc,hz,bodyPostS,results,Tryz.results156,Oper.upon]
theorem mdmustM_yes (d h l v u x t n:Int) (E L N O:SL) (w:World):Calls Tryz.prog 106 #[.agg #[.int .i64 d,.int .i64 h,.int .i64 l,.int .i64 v,.int .i64 u,.int .i64 x,.int .i64 t,.int .i64 n,.slice E.a E.n E.c,.slice L.a L.n L.c,.slice N.a N.n N.c,.slice O.a O.n O.c],.int .i64 0] w fun e w'=>e=.returned (.agg #[.int .i64 d,.int .i64 h,.int .i64 l,.int .i64 v,.int .i64 u,.int .i64 x,.int .i64 t,.int .i64 n,.slice E.a E.n E.c,.slice L.a L.n L.c,.slice N.a N.n N.c,.slice O.a O.n O.c])∧Below w.heap.size w w':=by
 have kn:=mdneed_yes 0
 have hb:=below_new (below_new (Below.refl w.heap.size w) (.cells #[.int .i64 d,.int .i64 h,.int .i64 l,.int .i64 v,.int .i64 u,.int .i64 x,.int .i64 t,.int .i64 n,.slice E.a E.n E.c,.slice L.a L.n L.c,.slice N.a N.n N.c,.slice O.a O.n O.c] 34)) (.cells #[.int .i64 0,.int .i64 0,.int .i64 0,.int .i64 0,.int .i64 0,.int .i64 0,.int .i64 0,.int .i64 0,.slice none 0 0,.slice none 0 0,.slice none 0 0,.slice none 0 0] 34)
 have q1:Blk 34 ((w.alloc (.cells #[.int .i64 d,.int .i64 h,.int .i64 l,.int .i64 v,.int .i64 u,.int .i64 x,.int .i64 t,.int .i64 n,.slice E.a E.n E.c,.slice L.a L.n L.c,.slice N.a N.n N.c,.slice O.a O.n O.c] 34)).alloc (.cells #[.int .i64 d,.int .i64 h,.int .i64 l,.int .i64 v,.int .i64 u,.int .i64 x,.int .i64 t,.int .i64 n,.slice E.a E.n E.c,.slice L.a L.n L.c,.slice N.a N.n N.c,.slice O.a O.n O.c] 34)) (w.heap.size+1) #[.int .i64 d,.int .i64 h,.int .i64 l,.int .i64 v,.int .i64 u,.int .i64 x,.int .i64 t,.int .i64 n,.slice E.a E.n E.c,.slice L.a L.n L.c,.slice N.a N.n N.c,.slice O.a O.n O.c]:=Blk.new_at 34 (w.alloc _) _ _ (by simp)
 have hb':=below_new (below_new (Below.refl w.heap.size w) (.cells #[.int .i64 d,.int .i64 h,.int .i64 l,.int .i64 v,.int .i64 u,.int .i64 x,.int .i64 t,.int .i64 n,.slice E.a E.n E.c,.slice L.a L.n L.c,.slice N.a N.n N.c,.slice O.a O.n O.c] 34)) (.cells #[.int .i64 d,.int .i64 h,.int .i64 l,.int .i64 v,.int .i64 u,.int .i64 x,.int .i64 t,.int .i64 n,.slice E.a E.n E.c,.slice L.a L.n L.c,.slice N.a N.n N.c,.slice O.a O.n O.c] 34)
 have HQ:=hidden_ q1
 clear q1 hb
 go_enter Tryz.func106,Tryz.ntmps106
 go_wp2_with (go_at_call 139;refine (kn _).mono ?_;rintro e w' ⟨rfl,rfl⟩)
 obtain⟨y0,y1,y2,y3,y4,y5,y6,y7,y8,y9,y10,y11⟩:=HQ.out.c12
 refine bodyPost_ret (v:=.agg #[.int .i64 d,.int .i64 h,.int .i64 l,.int .i64 v,.int .i64 u,.int .i64 x,.int .i64 t,.int .i64 n,.slice E.a E.n E.c,.slice L.a L.n L.c,.slice N.a N.n N.c,.slice O.a O.n O.c]) ?_ rfl ⟨rfl,hb'⟩
 simp[results,Tryz.results106,go_sem,y0,y1,y2,y3,y4,y5,y6,y7,y8,y9,y10,y11]
theorem mdmustA_yes (R S:Int) (L:SL) (w:World):Calls Tryz.prog 108 #[.agg #[.int .i64 R,.int .i64 S,.slice L.a L.n L.c],.int .i64 0] w fun e w'=>e=.returned (.agg #[.int .i64 R,.int .i64 S,.slice L.a L.n L.c])∧Below w.heap.size w w':=by
 have kn:=mdneed_yes 0
 have hb:=below_new (below_new (Below.refl w.heap.size w) (.cells #[.int .i64 R,.int .i64 S,.slice L.a L.n L.c] 37)) (.cells #[.int .i64 0,.int .i64 0,.slice none 0 0] 37)
 have q1:Blk 37 ((w.alloc (.cells #[.int .i64 R,.int .i64 S,.slice L.a L.n L.c] 37)).alloc (.cells #[.int .i64 R,.int .i64 S,.slice L.a L.n L.c] 37)) (w.heap.size+1) #[.int .i64 R,.int .i64 S,.slice L.a L.n L.c]:=Blk.new_at 37 (w.alloc _) _ _ (by simp)
 have hb':=below_new (below_new (Below.refl w.heap.size w) (.cells #[.int .i64 R,.int .i64 S,.slice L.a L.n L.c] 37)) (.cells #[.int .i64 R,.int .i64 S,.slice L.a L.n L.c] 37)
 have HQ:=hidden_ q1
 clear q1 hb
 go_enter Tryz.func108,Tryz.ntmps108
 go_wp2_with (go_at_call 139;refine (kn _).mono ?_;rintro e w' ⟨rfl,rfl⟩)
 obtain⟨y0,y1,y2⟩:=HQ.out.c3
 refine bodyPost_ret (v:=.agg #[.int .i64 R,.int .i64 S,.slice L.a L.n L.c]) ?_ rfl ⟨rfl,hb'⟩
 simp[results,Tryz.results108,go_sem,y0,y1,y2]
end
section
def Kept2 (N:Nat) (D:Nat→Option Nat) (a0:Act) (l:Nat→Bool) (a:Act):Prop:=∀ s,(∀ i,i<N→l i=true→D i≠some s)→a.tmps.getD s undef=a0.tmps.getD s undef
theorem kept2_start (N:Nat) (D:Nat→Option Nat) (a0:Act):Kept2 N D a0 (fun _=>false) a0:=fun _ _=>rfl
theorem Kept2.put {N:Nat} {D:Nat→Option Nat} {a0:Act} {l:Nat→Bool} {a:Act} (h:Kept2 N D a0 l a) {i d:Nat} {v:Value} (hD:D i=some d) (hd:d<a.tmps.size) (hi:i<N:=by decide):Kept2 N D a0 (fun j=>l j || j == i) (a.put (some d) v):=fun s hs=>by
 rw[get_put a d v s hd,if_neg (fun e=>hs i hi (by simp) (by rw[e];exact hD))]
 exact h s (fun j hj hl=>hs j hj (by simp[hl]))
theorem run_field23 (b f:Nat) (hf:f<8) (w:World):(Instr.fieldAt 23 (.pointer (some ⟨b,0,none⟩)) f).run Tryz.prog w=.ok (.pointer (some ⟨b,f,none⟩)) w:=by
 rcases (show f=0∨f=1∨f=2∨f=3∨f=4∨f=5∨f=6∨f=7 by omega) with rfl | rfl | rfl | rfl | rfl | rfl | rfl | rfl<;>go_simp
def lhD (i:Nat):Option Nat:=match i with | 0=>some 101 | 1=>some 102 | 2=>some 103 | 3=>some 104 | 4=>some 105 | 5=>some 106 | 6=>some 107 | 7=>some 108 | 8=>some 109 | 9=>some 110 | 10=>some 111 | 11=>some 112 | 12=>some 113 | 13=>some 114 | 14=>some 115 | 15=>some 116 | 16=>some 117 | 17=>some 10 | 18=>some 11 | 19=>some 12 | _=>none
theorem lhD_inj:∀ i,i<20→∀ j,j<20→lhD i=lhD j→lhD i≠none→i=j:=by decide
theorem lhD_lt:∀ i,i<20→∀ d,lhD i=some d→d<118:=by
 intro i hi d h
 have:∀ i,i<20→(lhD i).all (fun d=>decide (d<118))=true:=by decide
 have:=this i hi
 rw[h] at this
 simpa using this
def lhF (cb D0 qc kc vc:Nat) (qa ka va:Option Addr) (hh p:Int) (OQ OK:List Int) (i:Nat) (q:Value) (w:World):Prop:=match i with
 | 0=>q=.slice qa D0 qc
 | 1=>q=.pointer (some ⟨cb,1,none⟩)
 | 2=>q=.int .i64 hh
 | 3=>q=.int .i64 p
 | 4=>∃ b bc,q=.tuple #[.slice b D0 bc,.int .i64 0]∧Reads .i64 w b D0 OQ∧D0≤bc
 | 5=>∃ b bc,q=.slice b D0 bc∧Reads .i64 w b D0 OQ∧D0≤bc
 | 6=>q=.int .i64 0
 | 7=>∃ b bc,q=.slice b D0 bc∧Reads .i64 w b D0 OQ∧D0≤bc
 | 8=>q=.slice ka D0 kc
 | 9=>q=.pointer (some ⟨cb,1,none⟩)
 | 10=>q=.int .i64 hh
 | 11=>q=.int .i64 p
 | 12=>∃ b bc,q=.tuple #[.slice b D0 bc,.int .i64 0]∧Reads .i64 w b D0 OK∧D0≤bc
 | 13=>∃ b bc,q=.slice b D0 bc∧Reads .i64 w b D0 OK∧D0≤bc
 | 14=>q=.int .i64 0
 | 15=>∃ b bc,q=.slice b D0 bc∧Reads .i64 w b D0 OK∧D0≤bc
 | 16=>q=.slice va D0 vc
 | 17=>∃ b bc,q=.slice b D0 bc∧Reads .i64 w b D0 OQ∧D0≤bc
 | 18=>∃ b bc,q=.slice b D0 bc∧Reads .i64 w b D0 OK∧D0≤bc
 | 19=>q=.slice va D0 vc
 | _=>True
theorem lhF_below {cb D0 qc kc vc:Nat} {qa ka va:Option Addr} {hh p:Int} {OQ OK:List Int} {i:Nat} {q:Value} {w w':World} (h:lhF cb D0 qc kc vc qa ka va hh p OQ OK i q w) (hb:Below w.heap.size w w'):lhF cb D0 qc kc vc qa ka va hh p OQ OK i q w':=by
 unfold lhF at h ⊢
 split
 ·exact h
 ·exact h
 ·exact h
 ·exact h
 ·obtain⟨b,bc,h1,h2,h3⟩:=h;exact⟨b,bc,h1,h2.below hb,h3⟩
 ·obtain⟨b,bc,h1,h2,h3⟩:=h;exact⟨b,bc,h1,h2.below hb,h3⟩
 ·exact h
 ·obtain⟨b,bc,h1,h2,h3⟩:=h;exact⟨b,bc,h1,h2.below hb,h3⟩
 ·exact h
 ·exact h
 ·exact h
 ·exact h
 ·obtain⟨b,bc,h1,h2,h3⟩:=h;exact⟨b,bc,h1,h2.below hb,h3⟩
 ·obtain⟨b,bc,h1,h2,h3⟩:=h;exact⟨b,bc,h1,h2.below hb,h3⟩
 ·exact h
 ·obtain⟨b,bc,h1,h2,h3⟩:=h;exact⟨b,bc,h1,h2.below hb,h3⟩
 ·exact h
 ·obtain⟨b,bc,h1,h2,h3⟩:=h;exact⟨b,bc,h1,h2.below hb,h3⟩
 ·obtain⟨b,bc,h1,h2,h3⟩:=h;exact⟨b,bc,h1,h2.below hb,h3⟩
 ·exact h
 ·trivial
theorem lh_region {id:Nat} {ops:Array Oper} {Q:Exit→Act→World→Prop} {a0:Act} {w0:World} (cb D0 qc kc vc:Nat) (qa ka va:Option Addr) (hh p:Int) (OQ OK:List Int) (S:World→Prop) (hlow:lowB ops=true) (hsz:ops.size=20)
  (o0:OpIn ops 0 (some 101) (.move (.tmp 10)) none []) (o1:OpIn ops 1 (some 102) (.fieldAddr 23 (.tmp 13) 1) none []) (o2:OpIn ops 2 (some 103) (.load 3 (.tmp 102)) none [1]) (o3:OpIn ops 3 (some 104) (.move (.tmp 3)) none []) (o4:OpIn ops 4 (some 105) (.call { callee:=.value (.func 176),args:=#[.tmp 101,.tmp 103,.tmp 104],argTypes:=#[70,3,3] }) none [0,2,3]) (o5:OpIn ops 5 (some 106) (.extract (.tmp 105) 0) none [4]) (o6:OpIn ops 6 (some 107) (.extract (.tmp 105) 1) none [4]) (o7:OpIn ops 7 (some 108) (.call { callee:=.value (.func 145),args:=#[.tmp 106,.tmp 107],argTypes:=#[70,40] }) none [5,6]) (o8:OpIn ops 8 (some 109) (.move (.tmp 11)) none []) (o9:OpIn ops 9 (some 110) (.fieldAddr 23 (.tmp 13) 1) none []) (o10:OpIn ops 10 (some 111) (.load 3 (.tmp 110)) none [9]) (o11:OpIn ops 11 (some 112) (.move (.tmp 3)) none []) (o12:OpIn ops 12 (some 113) (.call { callee:=.value (.func 176),args:=#[.tmp 109,.tmp 111,.tmp 112],argTypes:=#[70,3,3] }) none [8,10,11]) (o13:OpIn ops 13 (some 114) (.extract (.tmp 113) 0) none [12]) (o14:OpIn ops 14 (some 115) (.extract (.tmp 113) 1) none [12]) (o15:OpIn ops 15 (some 116) (.call { callee:=.value (.func 145),args:=#[.tmp 114,.tmp 115],argTypes:=#[70,40] }) none [13,14]) (o16:OpIn ops 16 (some 117) (.move (.tmp 12)) none []) (o17:OpIn ops 17 (some 10) (.assign (.tmp 108)) none [0,7]) (o18:OpIn ops 18 (some 11) (.assign (.tmp 116)) none [8,15]) (o19:OpIn ops 19 (some 12) (.assign (.tmp 117)) none [16])
  (hS:S w0.drew)
  (x1:∀ w,(Instr.fieldAt 23 (.pointer (some ⟨cb,0,none⟩)) 1).run Tryz.prog w=.ok (.pointer (some ⟨cb,1,none⟩)) w)
  (x2:∀ w,S w→(Instr.loadAt 3 (.pointer (some ⟨cb,1,none⟩))).run Tryz.prog w=.ok (.int .i64 hh) w)
  (x4:∀ w,S w→Calls Tryz.prog 176 #[.slice qa D0 qc,.int .i64 hh,.int .i64 p] w fun e w'=>∃ b bc,e=.returned (.tuple #[.slice b D0 bc,.int .i64 0])∧Reads .i64 w' b D0 OQ∧D0≤bc∧Below w.heap.size w w'∧S w')
  (x7:True)
  (x9:∀ w,(Instr.fieldAt 23 (.pointer (some ⟨cb,0,none⟩)) 1).run Tryz.prog w=.ok (.pointer (some ⟨cb,1,none⟩)) w)
  (x10:∀ w,S w→(Instr.loadAt 3 (.pointer (some ⟨cb,1,none⟩))).run Tryz.prog w=.ok (.int .i64 hh) w)
  (x12:∀ w,S w→Calls Tryz.prog 176 #[.slice ka D0 kc,.int .i64 hh,.int .i64 p] w fun e w'=>∃ b bc,e=.returned (.tuple #[.slice b D0 bc,.int .i64 0])∧Reads .i64 w' b D0 OK∧D0≤bc∧Below w.heap.size w w'∧S w')
  (x15:True)
  (u3:a0.tmps.getD 3 undef=.int .i64 p)
  (u10:a0.tmps.getD 10 undef=.slice qa D0 qc)
  (u11:a0.tmps.getD 11 undef=.slice ka D0 kc)
  (u12:a0.tmps.getD 12 undef=.slice va D0 vc)
  (u13:a0.tmps.getD 13 undef=.pointer (some ⟨cb,0,none⟩))
  (hs:118≤a0.tmps.size)
  (fin:∀ a w,a.tmps.size=a0.tmps.size→a.defers=a0.defers→(∀ s,(∀ i,i<20→lhD i≠some s)→a.tmps.getD s undef=a0.tmps.getD s undef)→S w→(∀ i d,i<20→lhD i=some d→lhF cb D0 qc kc vc qa ka va hh p OQ OK i (a.tmps.getD d undef) w)→Q .normal a w):(Code.region id ops true).wp Tryz.prog Q a0 w0:=by
 have r48:∀ args w,(callFunc 145 args).run Tryz.prog w=.ok (.enter 145 args) w:=enters_of Tryz.func145 (by kernel_rfl) rfl
 have r95:∀ args w,(callFunc 176 args).run Tryz.prog w=.ok (.enter 176 args) w:=enters_of Tryz.func176 (by kernel_rfl) rfl
 refine wp_region_inv2 (by kernel_rfl) hlow (Inv 20 lhD a0 (fun l a w=>S w∧Kept2 20 lhD a0 l a) (fun _=>lhF cb D0 qc kc vc qa ka va hh p OQ OK)) (Inv.start ⟨hS,kept2_start _ _ _⟩) ?_ ?_
 ·intro l i o a w ho hl hcl hdep hI
  have hi:i<20:=by rw[←hsz];exact (Array.getElem?_eq_some_iff.1 ho).1
  have ev:∀ (s:Nat),a.eval (.tmp s)=a.tmps.getD s undef:=fun _=>rfl
  have evf:∀ f,a.eval (.func f)=.func (.func f) #[] #[]:=fun _=>rfl
  have evc:∀ c:Value,a.eval (.const c)=c:=fun _=>rfl
  have inj:∀ d,lhD i=some d→∀ j d',j<20→lhD j=some d'→j≠i→d'≠d:=fun d hd j d' hj hd' hne e=>hne (lhD_inj j hj i hi (by rw[hd',hd,e]) (by rw[hd'];simp))
  have kp:∀ s,(∀ i,i<20→lhD i≠some s)→a.tmps.getD s undef=a0.tmps.getD s undef:=hI.kept
  have hw:S w:=hI.world.1
  have k2:=hI.world.2
  have ex0:=hI.world.2
  have go:∀ {d:Nat} {v:Value} {w':World},lhD i=some d→Below w.heap.size w w'→S w'→lhF cb D0 qc kc vc qa ka va hh p OQ OK i v w'→Inv 20 lhD a0 (fun l a w=>S w∧Kept2 20 lhD a0 l a) (fun _=>lhF cb D0 qc kc vc qa ka va hh p OQ OK) (fun j=>l j || j == i) (a.put (some d) v) w':=by
   intro d v w' hD hb hS' hF
   exact hI.put hi hD (Nat.lt_of_lt_of_le (lhD_lt i hi d hD) hs) (inj d hD) ⟨hS',k2.put hD (by rw[hI.size];exact Nat.lt_of_lt_of_le (lhD_lt i hi d hD) hs) hi⟩ hF (fun j u _ _ _ hf=>lhF_below hf hb)
  rcases (show i=0∨i=1∨i=2∨i=3∨i=4∨i=5∨i=6∨i=7∨i=8∨i=9∨i=10∨i=11∨i=12∨i=13∨i=14∨i=15∨i=16∨i=17∨i=18∨i=19 by omega) with rfl | rfl | rfl | rfl | rfl | rfl | rfl | rfl | rfl | rfl | rfl | rfl | rfl | rfl | rfl | rfl | rfl | rfl | rfl | rfl
  ·obtain⟨o',e1,e2,e3,e4,e5⟩:=o0
   obtain rfl:=Option.some.inj (ho.symm.trans e1)
   have dp:=dep_of' e5 hdep
   have U10:a.tmps.getD 10 undef=.slice qa D0 qc:=(k2 10 (fun j hj hjl e=>by
    obtain rfl:=lhD_inj j hj 17 (by decide) (e.trans rfl) (by rw[e];simp)
    have y0:=hcl.dep' o17 hjl 0 (by decide)
    rw[hl] at y0
    cases y0)).trans u10
   exact wpOp_value (v:=.slice qa D0 qc) (w':=w) ho e4 (by simp[execOp,e3,ev,evc,U10]) (by rw[e2];exact go rfl (Below.refl _ _) hw rfl)
  ·obtain⟨o',e1,e2,e3,e4,e5⟩:=o1
   obtain rfl:=Option.some.inj (ho.symm.trans e1)
   have dp:=dep_of' e5 hdep
   have U13:a.tmps.getD 13 undef=.pointer (some ⟨cb,0,none⟩):=(kp 13 (by decide)).trans u13
   exact wpOp_value (v:=.pointer (some ⟨cb,1,none⟩)) (w':=w) ho e4 (by simp[execOp,e3,ev,evc,U13,x1 w]) (by rw[e2];exact go rfl (Below.refl _ _) hw rfl)
  ·obtain⟨o',e1,e2,e3,e4,e5⟩:=o2
   obtain rfl:=Option.some.inj (ho.symm.trans e1)
   have dp:=dep_of' e5 hdep
   have V1:a.tmps.getD 102 undef=.pointer (some ⟨cb,1,none⟩):=hI.val 1 102 (by decide) rfl (dp 1 (by decide))
   exact wpOp_value (v:=.int .i64 hh) (w':=w) ho e4 (by simp[execOp,e3,ev,evc,V1,x2 w hw]) (by rw[e2];exact go rfl (Below.refl _ _) hw rfl)
  ·obtain⟨o',e1,e2,e3,e4,e5⟩:=o3
   obtain rfl:=Option.some.inj (ho.symm.trans e1)
   have dp:=dep_of' e5 hdep
   have U3:a.tmps.getD 3 undef=.int .i64 p:=(kp 3 (by decide)).trans u3
   exact wpOp_value (v:=.int .i64 p) (w':=w) ho e4 (by simp[execOp,e3,ev,evc,U3]) (by rw[e2];exact go rfl (Below.refl _ _) hw rfl)
  ·obtain⟨o',e1,e2,e3,e4,e5⟩:=o4
   obtain rfl:=Option.some.inj (ho.symm.trans e1)
   have dp:=dep_of' e5 hdep
   have V0:a.tmps.getD 101 undef=.slice qa D0 qc:=hI.val 0 101 (by decide) rfl (dp 0 (by decide))
   have V2:a.tmps.getD 103 undef=.int .i64 hh:=hI.val 2 103 (by decide) rfl (dp 2 (by decide))
   have V3:a.tmps.getD 104 undef=.int .i64 p:=hI.val 3 104 (by decide) rfl (dp 3 (by decide))
   refine wpOp_call (f:=176) (args:=#[.slice qa D0 qc,.int .i64 hh,.int .i64 p]) ho e4 (by simp[execOp,e3,resolve,invoke,Deferred.ofValue,r95,ev,evf,evc,V0,V2,V3]) ((x4 w hw).mono ?_)
   rintro e W' ⟨b,bc,rfl,hr6,hz6,hb6,hs6⟩
   refine⟨_,rfl,?_⟩
   rw[e2]
   exact go rfl hb6 hs6 ⟨b,bc,rfl,hr6,hz6⟩
  ·obtain⟨o',e1,e2,e3,e4,e5⟩:=o5
   obtain rfl:=Option.some.inj (ho.symm.trans e1)
   have dp:=dep_of' e5 hdep
   obtain⟨b4,c4,V4,f4,z4⟩:∃ b bc,a.tmps.getD 105 undef=.tuple #[.slice b D0 bc,.int .i64 0]∧Reads .i64 w b D0 OQ∧D0≤bc:=hI.val 4 105 (by decide) rfl (dp 4 (by decide))
   exact wpOp_value (v:=.slice b4 D0 c4) (w':=w) ho e4 (by simp[execOp,e3,ev,evc,V4,Instr.extract]) (by rw[e2];exact go rfl (Below.refl _ _) hw ⟨_,_,rfl,f4,z4⟩)
  ·obtain⟨o',e1,e2,e3,e4,e5⟩:=o6
   obtain rfl:=Option.some.inj (ho.symm.trans e1)
   have dp:=dep_of' e5 hdep
   obtain⟨b4,c4,V4,f4,z4⟩:∃ b bc,a.tmps.getD 105 undef=.tuple #[.slice b D0 bc,.int .i64 0]∧Reads .i64 w b D0 OQ∧D0≤bc:=hI.val 4 105 (by decide) rfl (dp 4 (by decide))
   exact wpOp_value (v:=.int .i64 0) (w':=w) ho e4 (by simp[execOp,e3,ev,evc,V4,Instr.extract]) (by rw[e2];exact go rfl (Below.refl _ _) hw rfl)
  ·obtain⟨o',e1,e2,e3,e4,e5⟩:=o7
   obtain rfl:=Option.some.inj (ho.symm.trans e1)
   have dp:=dep_of' e5 hdep
   obtain⟨b5,c5,V5,f5,z5⟩:∃ b bc,a.tmps.getD 106 undef=.slice b D0 bc∧Reads .i64 w b D0 OQ∧D0≤bc:=hI.val 5 106 (by decide) rfl (dp 5 (by decide))
   have V6:a.tmps.getD 107 undef=.int .i64 0:=hI.val 6 107 (by decide) rfl (dp 6 (by decide))
   refine wpOp_call (f:=145) (args:=#[.slice b5 D0 c5,.int .i64 0]) ho e4 (by simp[execOp,e3,resolve,invoke,Deferred.ofValue,r48,ev,evf,evc,V5,V6]) ((mdmust_yes _ _ _ w).mono ?_)
   rintro e W' ⟨rfl,hq6⟩
   refine⟨_,rfl,?_⟩
   rw[e2]
   exact go rfl (by rw[hq6];exact Below.refl _ _) (by rw[hq6];exact hw) ⟨_,_,rfl,(by rw[hq6];exact f5),z5⟩
  ·obtain⟨o',e1,e2,e3,e4,e5⟩:=o8
   obtain rfl:=Option.some.inj (ho.symm.trans e1)
   have dp:=dep_of' e5 hdep
   have U11:a.tmps.getD 11 undef=.slice ka D0 kc:=(k2 11 (fun j hj hjl e=>by
    obtain rfl:=lhD_inj j hj 18 (by decide) (e.trans rfl) (by rw[e];simp)
    have y0:=hcl.dep' o18 hjl 8 (by decide)
    rw[hl] at y0
    cases y0)).trans u11
   exact wpOp_value (v:=.slice ka D0 kc) (w':=w) ho e4 (by simp[execOp,e3,ev,evc,U11]) (by rw[e2];exact go rfl (Below.refl _ _) hw rfl)
  ·obtain⟨o',e1,e2,e3,e4,e5⟩:=o9
   obtain rfl:=Option.some.inj (ho.symm.trans e1)
   have dp:=dep_of' e5 hdep
   have U13:a.tmps.getD 13 undef=.pointer (some ⟨cb,0,none⟩):=(kp 13 (by decide)).trans u13
   exact wpOp_value (v:=.pointer (some ⟨cb,1,none⟩)) (w':=w) ho e4 (by simp[execOp,e3,ev,evc,U13,x9 w]) (by rw[e2];exact go rfl (Below.refl _ _) hw rfl)
  ·obtain⟨o',e1,e2,e3,e4,e5⟩:=o10
   obtain rfl:=Option.some.inj (ho.symm.trans e1)
   have dp:=dep_of' e5 hdep
   have V9:a.tmps.getD 110 undef=.pointer (some ⟨cb,1,none⟩):=hI.val 9 110 (by decide) rfl (dp 9 (by decide))
   exact wpOp_value (v:=.int .i64 hh) (w':=w) ho e4 (by simp[execOp,e3,ev,evc,V9,x10 w hw]) (by rw[e2];exact go rfl (Below.refl _ _) hw rfl)
  ·obtain⟨o',e1,e2,e3,e4,e5⟩:=o11
   obtain rfl:=Option.some.inj (ho.symm.trans e1)
   have dp:=dep_of' e5 hdep
   have U3:a.tmps.getD 3 undef=.int .i64 p:=(kp 3 (by decide)).trans u3
   exact wpOp_value (v:=.int .i64 p) (w':=w) ho e4 (by simp[execOp,e3,ev,evc,U3]) (by rw[e2];exact go rfl (Below.refl _ _) hw rfl)
  ·obtain⟨o',e1,e2,e3,e4,e5⟩:=o12
   obtain rfl:=Option.some.inj (ho.symm.trans e1)
   have dp:=dep_of' e5 hdep
   have V8:a.tmps.getD 109 undef=.slice ka D0 kc:=hI.val 8 109 (by decide) rfl (dp 8 (by decide))
   have V10:a.tmps.getD 111 undef=.int .i64 hh:=hI.val 10 111 (by decide) rfl (dp 10 (by decide))
   have V11:a.tmps.getD 112 undef=.int .i64 p:=hI.val 11 112 (by decide) rfl (dp 11 (by decide))
   refine wpOp_call (f:=176) (args:=#[.slice ka D0 kc,.int .i64 hh,.int .i64 p]) ho e4 (by simp[execOp,e3,resolve,invoke,Deferred.ofValue,r95,ev,evf,evc,V8,V10,V11]) ((x12 w hw).mono ?_)
   rintro e W' ⟨b,bc,rfl,hr6,hz6,hb6,hs6⟩
   refine⟨_,rfl,?_⟩
   rw[e2]
   exact go rfl hb6 hs6 ⟨b,bc,rfl,hr6,hz6⟩
  ·obtain⟨o',e1,e2,e3,e4,e5⟩:=o13
   obtain rfl:=Option.some.inj (ho.symm.trans e1)
   have dp:=dep_of' e5 hdep
   obtain⟨b12,c12,V12,f12,z12⟩:∃ b bc,a.tmps.getD 113 undef=.tuple #[.slice b D0 bc,.int .i64 0]∧Reads .i64 w b D0 OK∧D0≤bc:=hI.val 12 113 (by decide) rfl (dp 12 (by decide))
   exact wpOp_value (v:=.slice b12 D0 c12) (w':=w) ho e4 (by simp[execOp,e3,ev,evc,V12,Instr.extract]) (by rw[e2];exact go rfl (Below.refl _ _) hw ⟨_,_,rfl,f12,z12⟩)
  ·obtain⟨o',e1,e2,e3,e4,e5⟩:=o14
   obtain rfl:=Option.some.inj (ho.symm.trans e1)
   have dp:=dep_of' e5 hdep
   obtain⟨b12,c12,V12,f12,z12⟩:∃ b bc,a.tmps.getD 113 undef=.tuple #[.slice b D0 bc,.int .i64 0]∧Reads .i64 w b D0 OK∧D0≤bc:=hI.val 12 113 (by decide) rfl (dp 12 (by decide))
   exact wpOp_value (v:=.int .i64 0) (w':=w) ho e4 (by simp[execOp,e3,ev,evc,V12,Instr.extract]) (by rw[e2];exact go rfl (Below.refl _ _) hw rfl)
  ·obtain⟨o',e1,e2,e3,e4,e5⟩:=o15
   obtain rfl:=Option.some.inj (ho.symm.trans e1)
   have dp:=dep_of' e5 hdep
   obtain⟨b13,c13,V13,f13,z13⟩:∃ b bc,a.tmps.getD 114 undef=.slice b D0 bc∧Reads .i64 w b D0 OK∧D0≤bc:=hI.val 13 114 (by decide) rfl (dp 13 (by decide))
   have V14:a.tmps.getD 115 undef=.int .i64 0:=hI.val 14 115 (by decide) rfl (dp 14 (by decide))
   refine wpOp_call (f:=145) (args:=#[.slice b13 D0 c13,.int .i64 0]) ho e4 (by simp[execOp,e3,resolve,invoke,Deferred.ofValue,r48,ev,evf,evc,V13,V14]) ((mdmust_yes _ _ _ w).mono ?_)
   rintro e W' ⟨rfl,hq6⟩
   refine⟨_,rfl,?_⟩
   rw[e2]
   exact go rfl (by rw[hq6];exact Below.refl _ _) (by rw[hq6];exact hw) ⟨_,_,rfl,(by rw[hq6];exact f13),z13⟩
  ·obtain⟨o',e1,e2,e3,e4,e5⟩:=o16
   obtain rfl:=Option.some.inj (ho.symm.trans e1)
   have dp:=dep_of' e5 hdep
   have U12:a.tmps.getD 12 undef=.slice va D0 vc:=(k2 12 (fun j hj hjl e=>by
    obtain rfl:=lhD_inj j hj 19 (by decide) (e.trans rfl) (by rw[e];simp)
    have y0:=hcl.dep' o19 hjl 16 (by decide)
    rw[hl] at y0
    cases y0)).trans u12
   exact wpOp_value (v:=.slice va D0 vc) (w':=w) ho e4 (by simp[execOp,e3,ev,evc,U12]) (by rw[e2];exact go rfl (Below.refl _ _) hw rfl)
  ·obtain⟨o',e1,e2,e3,e4,e5⟩:=o17
   obtain rfl:=Option.some.inj (ho.symm.trans e1)
   have dp:=dep_of' e5 hdep
   have V0:a.tmps.getD 101 undef=.slice qa D0 qc:=hI.val 0 101 (by decide) rfl (dp 0 (by decide))
   obtain⟨b7,c7,V7,f7,z7⟩:∃ b bc,a.tmps.getD 108 undef=.slice b D0 bc∧Reads .i64 w b D0 OQ∧D0≤bc:=hI.val 7 108 (by decide) rfl (dp 7 (by decide))
   exact wpOp_value (v:=.slice b7 D0 c7) (w':=w) ho e4 (by simp[execOp,e3,ev,evc,V0,V7]) (by rw[e2];exact go rfl (Below.refl _ _) hw ⟨_,_,rfl,f7,z7⟩)
  ·obtain⟨o',e1,e2,e3,e4,e5⟩:=o18
   obtain rfl:=Option.some.inj (ho.symm.trans e1)
   have dp:=dep_of' e5 hdep
   have V8:a.tmps.getD 109 undef=.slice ka D0 kc:=hI.val 8 109 (by decide) rfl (dp 8 (by decide))
   obtain⟨b15,c15,V15,f15,z15⟩:∃ b bc,a.tmps.getD 116 undef=.slice b D0 bc∧Reads .i64 w b D0 OK∧D0≤bc:=hI.val 15 116 (by decide) rfl (dp 15 (by decide))
   exact wpOp_value (v:=.slice b15 D0 c15) (w':=w) ho e4 (by simp[execOp,e3,ev,evc,V8,V15]) (by rw[e2];exact go rfl (Below.refl _ _) hw ⟨_,_,rfl,f15,z15⟩)
  ·obtain⟨o',e1,e2,e3,e4,e5⟩:=o19
   obtain rfl:=Option.some.inj (ho.symm.trans e1)
   have dp:=dep_of' e5 hdep
   have V16:a.tmps.getD 117 undef=.slice va D0 vc:=hI.val 16 117 (by decide) rfl (dp 16 (by decide))
   exact wpOp_value (v:=.slice va D0 vc) (w':=w) ho e4 (by simp[execOp,e3,ev,evc,V16]) (by rw[e2];exact go rfl (Below.refl _ _) hw rfl)
 ·intro l a w hall hI
  have all:∀ j,j<20→l j=true:=fun j hj=>hall j (by rw[hsz];exact hj)
  exact fin a w hI.size hI.defers hI.kept hI.world.1 (fun i d hi hD=>hI.val i d hi hD (all i hi))
end
section
theorem wpList_layer2 {ops:Array Oper} {rest:List Oper} {o:Oper} {a:Act} {w:World} {Q:Exit→Act→World→Prop} (hgd:o.guard=none) (s x:Operand) (ho:o.op=.call { callee:=.builtin .append,args:=#[s,x],argTypes:=#[32,32] })
  (B k:Nat) (v:Value) (Y U D:Nat→Nat→SL) (m:ModV) (y uu dd:Nat→SL) (g c:Nat) (hs:a.eval s=v) (hx:a.eval x=.slice (some ⟨g,0,none⟩) 1 c) (hT:TL B w v k Y U D m) (hc:Blk 61 w g ((List.range 9).map fun r=>(y r).v).toArray)
  (hy:TY B w y uu dd (m.f k) (m.un k) (m.dn k) (m.u k) (m.d k)) (hl:(k+1)*216≤140737488355328) (hB:B≤w.heap.size)
  (h:∀ v' w',w.grownBy w' v.ownBlock→(∀ g,v.ownBlock=some g→B≤g)→Keeps 34 w w'→Keeps 118 w w'→TL B w' v' (k+1) (upd Y k y) (upd U k uu) (upd D k dd) m→wpList Tryz.prog ops Q rest (a.put o.dst v') w'):wpList Tryz.prog ops Q (o :: rest) a w:=by
 obtain⟨i0,hi,hz0,hz1,hz2⟩:=i61'
 refine wpList_plain hgd fun K hK=>?_
 refine wp_append_own w s x 32 ho B 61 i0 _ 9 216 Tryz.underlying32 hi hz0 hz1 hz2 rfl (by decide) v k _ hs hT.own ⟨g,0,none⟩ 1 c ((List.range 9).map fun r=>(y r).v) hx (by simp) (fun j u hj=>by
  have e:(⟨g,0,none⟩:Addr).add j=⟨g,j,none⟩:=by by_cases h:j=0<;>simp[Addr.add,h]
  rw[e]
  exact hc.cell j (by simpa using hj)) (fun u hu=>by obtain⟨r,_,rfl⟩:=List.mem_map.1 hu;rfl) (by unfold maxLen;omega) hl hB fun v' w' own' hg _=>hK _ _ (h v' w' hg (fun g hg=>(hT.own.lt g hg).1) (Keeps.of_own hg hT.own (by decide)) (Keeps.of_own hg hT.own (by decide)) ?_)
 have k46:Keeps 118 w w':=Keeps.of_own hg hT.own (by decide)
 have k26:Keeps 31 w w':=Keeps.of_own hg hT.own (by decide)
 refine⟨?_,fun j hj=>?_⟩
 ·rw[cells9_succ,upd_same,cells9_congr (Y':=Y) (fun j hj r _=>by rw[upd_other Y k y (by omega)])]
  exact own'
 ·by_cases e:j=k
  ·subst e
   rw[upd_same,upd_same,upd_same]
   exact hy.step k46 k26
  ·rw[upd_other Y k y e,upd_other U k uu e,upd_other D k dd e]
   exact (hT.lay j (by omega)).step k46 k26
theorem TL.slice {B:Nat} {w:World} {v:Value} {n:Nat} {Y U D:Nat→Nat→SL} {m:ModV} (h:TL B w v n Y U D m):∃ s:SL,v=.slice s.a s.n s.c:=by
 rcases h.own.2 with⟨e,_⟩ | ⟨g,cap,cur,e,_⟩
 ·exact⟨⟨none,0,0⟩,e⟩
 ·exact⟨⟨_,_,_⟩,e⟩
theorem TL.step {B:Nat} {w w':World} {v:Value} {n:Nat} {Y U D:Nat→Nat→SL} {m:ModV} (h:TL B w v n Y U D m) (k59:Keeps 61 w w') (k46:Keeps 118 w w') (k26:Keeps 31 w w'):TL B w' v n Y U D m:=⟨k59.own h.own,fun i hi=>(h.lay i hi).step k46 k26⟩
theorem TG.but {B:Nat} {w w':World} {v:Value} {k:Nat} {R:Nat→SL} {Z:Nat→List Int} {r:Option Nat} (h:TG B w v k R Z) (kb:KeepsBut 31 r w w') (hv:∀ g,v.ownBlock=some g→r≠some g) (k46:Keeps 118 w w'):TG B w' v k R Z:=⟨kb.own hv h.own,fun j hj=>(h.row j hj).step k46⟩
structure LayS (WR:World) (xb sb lb N:Nat) (ws:List Int) (cnt:Nat→Nat) (K:Nat) (cs:Array Value) (W:World):Prop where
 only:Only xb WR W
 cut:CutAt W xb sb N ws (offs cnt K)
 blk:Blk 61 W lb cs
theorem LayS.step {WR W W':World} {xb sb lb N:Nat} {ws:List Int} {cnt:Nat→Nat} {K:Nat} {cs:Array Value} (h:LayS WR xb sb lb N ws cnt K cs W) (hlb:WR.heap.size≤lb) (hx:xb<WR.heap.size) (hs:sb<WR.heap.size) (on:Only xb W W') (cut':CutAt W' xb sb N ws (offs cnt (K+1))) (r:Nat) {o:Value} (old:cs[r]? = some o) (s:SL) {cs':Array Value} (ec:cs.setIfInBounds r (.slice s.a s.n s.c)=cs') :
  ∃ V,W'.setCell ⟨lb,r,none⟩ (.slice s.a s.n s.c)=V∧W'.cell? ⟨lb,r,none⟩=some o∧W'.frozen? ⟨lb,r,none⟩=false∧LayS WR xb sb lb N ws cnt (K+1) cs' V∧Keeps 118 W V∧Keeps 118 W' V:=by
 have q:=h.blk.only on (by omega)
 have o2:Only lb W' (W'.setCell ⟨lb,r,none⟩ (.slice s.a s.n s.c)):=Only.set _ _ _ _
 have k2:Keeps 118 W' (W'.setCell ⟨lb,r,none⟩ (.slice s.a s.n s.c)):=Keeps.of_only o2 q (by decide)
 exact⟨_,rfl,q.cell r old,q.open_ r,⟨(h.only.trans on).new hlb o2,cut'.only o2 (by omega) (by omega),ec ▸ q.set r _⟩,(h.cut.keeps on (by decide)).trans k2,k2⟩
structure ShI (A:World) (xb sb mb N:Nat) (ws:List Int) (cnt:Nat→Nat) (ne:Nat) (C:SL→SL→Array Value) (sE:SL) (m:ModV) (i:Nat) (W:World):Prop where
 only:Only xb A W
 cut:CutAt W xb sb N ws (offs cnt (1+i*pl ne))
 te:TS A.heap.size W sE m.e
 mod:∃ (L:SL) (Y U D:Nat→Nat→SL),Blk 34 W mb (C sE L)∧TL A.heap.size W (.slice L.a L.n L.c) i Y U D m
def ckApart (u d:Value):Prop:=∀ g,u.ownBlock=some g→d.ownBlock≠some g
structure NetI (WR V6:World) (xb sb lb N:Nat) (ws:List Int) (cnt:Nat→Nat) (K0:Nat) (C:SL→SL→Array Value) (zu zd:Nat→List Int) (k:Nat) (W:World):Prop where
 only:Only xb WR W
 cut:CutAt W xb sb N ws (offs cnt (K0+2*k))
 nets:∃ (u d:SL) (RU RD:Nat→SL),Blk 61 W lb (C u d)∧TG WR.heap.size W (.slice u.a u.n u.c) k RU zu∧TG WR.heap.size W (.slice d.a d.n d.c) k RD zd∧ckApart (.slice u.a u.n u.c) (.slice d.a d.n d.c)
 k46:Keeps 118 V6 W
 size:V6.heap.size≤W.heap.size
theorem apart_of {w0 w1:World} {B:Nat} {u d u' d':Value} {k k':Nat} {R R':Nat→SL} {Z Z':Nat→List Int} (h:ckApart u d) (hd:TG B w0 d k R Z) (hu':TG B w1 u' k' R' Z') (ou:OB u w0 u') (od:OB d w1 d'):ckApart u' d':=by
 intro g h1 h2
 rcases od with e | ⟨b,hb,e⟩
 ·rcases ou with e' | ⟨b',hb',e'⟩
  ·exact h g (by rw[←e'];exact h1) (by rw[←e];exact h2)
  ·have:b'=g:=Option.some.inj (e'.symm.trans h1)
   have:=(hd.own.lt g (by rw[←e];exact h2)).2
   omega
 ·have:b=g:=Option.some.inj (e.symm.trans h2)
  have:=(hu'.own.lt g h1).2
  omega
theorem fin12 {X:World} {mb:Nat} {cs cs':Array Value} (q:Blk 34 X mb cs) (r:Nat) (s:SL) {o:Value} (old:cs[r]? = some o) (ec:cs.setIfInBounds r (.slice s.a s.n s.c)=cs'):∃ V,X.setCell ⟨mb,r,none⟩ (.slice s.a s.n s.c)=V∧X.cell? ⟨mb,r,none⟩=some o∧X.frozen? ⟨mb,r,none⟩=false∧Blk 34 V mb cs'∧Only mb X V∧(∀ t,t≠34→Keeps t X V) :=
 ⟨_,rfl,q.cell r old,q.open_ r,ec ▸ q.set r _,Only.set _ _ _ _,fun t ht=>Keeps.of_only (Only.set _ _ _ _) q ht⟩
theorem firD_out {s:Nat} (h:s ∉ [27,28,29,30,31,32,33,34,8]):∀ j,j<10→firD j≠some s:=by
 intro j hj e
 apply h
 have H:∀ j,j<10→(match firD j with | some s=>decide (s∈[27,28,29,30,31,32,33,34,8]) | none=>true)=true:=by decide
 have:=H j hj
 rw[e] at this
 simpa using this
end
section
theorem refShape_few (h v u x t n:Int) (D DD XD UD VD ln nW cW:Nat) (xa:Addr) (ws:List Int) (e1:v*(D:Int)=(VD:Int)) (e2:(D:Int)*(D:Int)=(DD:Int)) (e3:x*(D:Int)=(XD:Int)) (e4:u*(D:Int)=(UD:Int)) (e5:(D:Int)*u=(UD:Int)) (xlt:x<1)
  (b0:D≤8) (b1:VD≤1000) (b2:DD≤1000) (b3:XD≤1000) (b4:UD≤1000) (l1:ln≤2) (w:World)
  (k10:∀ w,Calls Tryz.prog 46 #[.agg #[.int .i64 (D:Int),.int .i64 h,.int .i64 (ln:Int),.int .i64 v,.int .i64 u,.int .i64 x,.int .i64 t,.int .i64 n]] w fun e w'=>e=.returned (.bool true)∧Below w.heap.size w w')
  (k12:∀ w,Calls Tryz.prog 37 #[.agg #[.int .i64 (D:Int),.int .i64 h,.int .i64 (ln:Int),.int .i64 v,.int .i64 u,.int .i64 x,.int .i64 t,.int .i64 n]] w fun e w'=>e=.returned (.int .i64 (nW:Int))∧Below w.heap.size w w')
  (rd:Reads .i8 w (some xa) nW ws) (hc:nW≤cW) (hn:nW≤100000) (hfit:offs (planC ln 1 D DD XD UD VD) (1+ln*pl 1+2)=nW) (hxa:xa.block<w.heap.size) :
  Calls Tryz.prog 33 #[.agg #[.int .i64 (D:Int),.int .i64 h,.int .i64 (ln:Int),.int .i64 v,.int .i64 u,.int .i64 x,.int .i64 t,.int .i64 n],.slice (some xa) nW cW] w fun e w'=>∃ E L N O:SL,∃ Y U D',e=.returned (.tuple #[.agg #[.int .i64 (D:Int),.int .i64 h,.int .i64 (ln:Int),.int .i64 v,.int .i64 u,.int .i64 x,.int .i64 t,.int .i64 n,.slice E.a E.n E.c,.slice L.a L.n L.c,.slice N.a N.n N.c,.slice O.a O.n O.c],.int .i64 0]) ∧
   NewM w.heap.size w' E L N O Y U D' (ofSeq ln 1 (seg (planC ln 1 D DD XD UD VD) ws))∧Below w.heap.size w w':=by
 have cl:=fun i r hi hr=>planC_list (ln:=ln) (ne:=1) (D:=D) (DD:=DD) (XD:=XD) (UD:=UD) (VD:=VD) i r hi hr
 have cu:=fun i j hi hj=>planC_up (ln:=ln) (ne:=1) (D:=D) (DD:=DD) (XD:=XD) (UD:=UD) (VD:=VD) i j hi hj
 have cd:=fun i j hi hj=>planC_down (ln:=ln) (ne:=1) (D:=D) (DD:=DD) (XD:=XD) (UD:=UD) (VD:=VD) i j hi hj
 have cn:=planC_norm (ln:=ln) (ne:=1) (D:=D) (DD:=DD) (XD:=XD) (UD:=UD) (VD:=VD)
 have co:=planC_out (ln:=ln) (ne:=1) (D:=D) (DD:=DD) (XD:=XD) (UD:=UD) (VD:=VD)
 have c0:planC ln 1 D DD XD UD VD 0=VD:=rfl
 obtain⟨cnt,ecnt⟩:∃ c,planC ln 1 D DD XD UD VD=c:=⟨_,rfl⟩
 rw[ecnt] at hfit cn co c0 ⊢
 simp only[ecnt] at cl cu cd
 clear ecnt
 have FIT:∀ k,k<1+ln*pl 1+2→offs cnt (k+1)≤nW:=fun k hk=>by rw[←hfit];exact offs_mono cnt hk
 have hb:=below_new (below_new (Below.refl w.heap.size w) (.cells #[.int .i64 (D:Int),.int .i64 h,.int .i64 (ln:Int),.int .i64 v,.int .i64 u,.int .i64 x,.int .i64 t,.int .i64 n] 23)) (.cells #[.int .i64 0,.int .i64 0,.int .i64 0,.int .i64 0,.int .i64 0,.int .i64 0,.int .i64 0,.int .i64 0,.slice none 0 0,.slice none 0 0,.slice none 0 0,.slice none 0 0] 34)
 have q0:Blk 23 ((w.alloc (.cells #[.int .i64 (D:Int),.int .i64 h,.int .i64 (ln:Int),.int .i64 v,.int .i64 u,.int .i64 x,.int .i64 t,.int .i64 n] 23)).alloc (.cells #[.int .i64 0,.int .i64 0,.int .i64 0,.int .i64 0,.int .i64 0,.int .i64 0,.int .i64 0,.int .i64 0,.slice none 0 0,.slice none 0 0,.slice none 0 0,.slice none 0 0] 34)) w.heap.size #[.int .i64 (D:Int),.int .i64 h,.int .i64 (ln:Int),.int .i64 v,.int .i64 u,.int .i64 x,.int .i64 t,.int .i64 n]:=(Blk.new 23 w _).kept (below_new (Below.refl _ _) _)
 have qr:Blk 34 ((w.alloc (.cells #[.int .i64 (D:Int),.int .i64 h,.int .i64 (ln:Int),.int .i64 v,.int .i64 u,.int .i64 x,.int .i64 t,.int .i64 n] 23)).alloc (.cells #[.int .i64 0,.int .i64 0,.int .i64 0,.int .i64 0,.int .i64 0,.int .i64 0,.int .i64 0,.int .i64 0,.slice none 0 0,.slice none 0 0,.slice none 0 0,.slice none 0 0] 34)) (w.heap.size+1) #[.int .i64 0,.int .i64 0,.int .i64 0,.int .i64 0,.int .i64 0,.int .i64 0,.int .i64 0,.int .i64 0,.slice none 0 0,.slice none 0 0,.slice none 0 0,.slice none 0 0]:=Blk.new_at 34 (w.alloc _) _ _ (by simp)
 obtain⟨d0,d1,d2,d3,d4,d5,d6,d7⟩:=q0.cfg
 have HR:=hidden_ (And.intro rd (And.intro hc hfit))
 have HCN:=hidden_ (And.intro cl (And.intro cu (And.intro cd (And.intro cn (And.intro co (And.intro c0 FIT))))))
 clear rd hc hfit cl cu cd cn co c0 FIT
 go_enter Tryz.func33,Tryz.ntmps33
 go_wp2_with (first
  | (go_at_call 46;refine (k10 _).mono ?_;rintro e W1 ⟨rfl,h1⟩;replace q0:=q0.kept h1;replace qr:=qr.kept h1;replace hb:=below_then hb h1;clear h1 k10 d0 d1 d2 d3 d4 d5 d6 d7;obtain⟨d0,d1,d2,d3,d4,d5,d6,d7⟩:=q0.cfg)
  | (go_at_call 37;refine (k12 _).mono ?_;rintro e W2 ⟨rfl,h2⟩;replace q0:=q0.kept h2;replace qr:=qr.kept h2;replace hb:=below_then hb h2;obtain⟨A,eA⟩:∃ A,W2.alloc (.cells #[.slice (some xa) nW cW] 114)=A:=⟨_,rfl⟩;have bA:Below W2.heap.size W2 A:=eA ▸ below_new (Below.refl _ _) _;have zA:A.heap.size=W2.heap.size+1:=(by rw[←eA];simp);have qx:Blk 114 A W2.heap.size #[.slice (some xa) nW cW]:=eA ▸ Blk.new 114 W2 _;clear h2 k12 d0 d1 d2 d3 d4 d5 d6 d7;obtain⟨d0,d1,d2,d3,d4,d5,d6,d7⟩:=q0.cfg))
 have q0A:=q0.kept bA
 have qrA:=qr.kept bA
 have hs2:w.heap.size≤W2.heap.size:=hb.size
 have hrl:=qr.lt
 have hbA:=below_then hb bA
 clear d0 d1 d2 d3 d4 d5 d6 d7 q0 qr bA
 refine first_region (D:Int) h (ln:Int) v u x t n W2.heap.size w.heap.size xa.block nW ws cnt (by kernel_rfl) rfl ⟨_,rfl,rfl,rfl,rfl,by kernel_rfl⟩ ⟨_,rfl,rfl,rfl,rfl,by kernel_rfl⟩ ⟨_,rfl,rfl,rfl,rfl,by kernel_rfl⟩ ⟨_,rfl,rfl,rfl,rfl,by kernel_rfl⟩ ⟨_,rfl,rfl,rfl,rfl,by kernel_rfl⟩ ⟨_,rfl,rfl,rfl,rfl,by kernel_rfl⟩ ⟨_,rfl,rfl,rfl,rfl,by kernel_rfl⟩ ⟨_,rfl,rfl,rfl,rfl,by kernel_rfl⟩ ⟨_,rfl,rfl,rfl,rfl,by kernel_rfl⟩ ⟨_,rfl,rfl,rfl,rfl,by kernel_rfl⟩ (fun w=>by rw[HCN.out.2.2.2.2.2.1];go_simp;exact wrap_fits (by omega) (by omega)) q0A rfl rfl rfl ⟨xa,cW,by simpa using qx,rfl,by simpa using HR.out.1.below hbA,by have:=HR.out.2.1;omega⟩ (by have:=HCN.out.2.2.2.2.2.2 0 (by omega);simpa [offs] using this) hn (by omega) (by omega) (by omega) (Nat.le_of_ble_eq_true rfl) ?_
 intro a W3 mb sE hs hd hkp v8 hmb qm tE hcut on3
 have ep:=frame_puts [27,28,29,30,31,32,33,34,8] hs hd (fun s h'=>hkp s (firD_out h'))
 simp only[List.foldl] at ep
 rw[v8] at ep
 clear hs hd hkp v8 eA qx
 generalize a.tmps.getD 27 undef=g27,a.tmps.getD 28 undef=g28,a.tmps.getD 29 undef=g29,a.tmps.getD 30 undef=g30,a.tmps.getD 31 undef=g31,a.tmps.getD 32 undef=g32,a.tmps.getD 33 undef=g33,a.tmps.getD 34 undef=g34 at ep
 simp only[Act.put,List.setIfInBounds_toArray,List.set_cons_succ,List.set_cons_zero] at ep
 subst ep
 have INIT:Hid (ShI A W2.heap.size xa.block mb nW ws cnt 1 (fun sE L=>#[.int .i64 (D:Int),.int .i64 h,.int .i64 (ln:Int),.int .i64 v,.int .i64 u,.int .i64 x,.int .i64 t,.int .i64 n,.slice sE.a sE.n sE.c,.slice L.a L.n L.c,.slice none 0 0,.slice none 0 0]) sE (ofSeq ln 1 (seg cnt ws)) 0 W3):=⟨on3,(by rw[Nat.zero_mul];exact hcut),tE,⟨none,0,0⟩,(fun _ _=>SL.nought),(fun _ _=>SL.nought),(fun _ _=>SL.nought),qm,TL.nil _ _ _ _ _ _⟩
 have HA:=hidden_ (And.intro hbA (And.intro q0A (And.intro qrA (And.intro hmb (And.intro zA (And.intro hs2 hrl))))))
 have K55:∀ (k:Nat) (z:Int) (W:World),k<1+ln*pl 1+2→(cnt k:Int)=z→CutAt W W2.heap.size xa.block nW ws (offs cnt k)→Calls Tryz.prog 61 #[.pointer (some ⟨W2.heap.size,0,none⟩),.int .i64 z] W fun e W'=>∃ s:SL,e=.returned (.slice s.a s.n s.c)∧TS W.heap.size W' s (seg cnt ws k)∧CutAt W' W2.heap.size xa.block nW ws (offs cnt (k+1))∧Only W2.heap.size W W':=fun k z W hk hz hcu=>by
  rw[←hz]
  exact next_seg hcu (HCN.out.2.2.2.2.2.2 k hk) hn (by omega)
 clear hbA q0A qrA hmb zA on3 hcut tE qm hb
 go_wp2
 go_loopw [9,10,11] (fun i _ _ wr=>∃ k:Nat,k≤ln∧i=.int .i64 k∧ShI A W2.heap.size xa.block mb nW ws cnt 1 (fun sE L=>#[.int .i64 (D:Int),.int .i64 h,.int .i64 (ln:Int),.int .i64 v,.int .i64 u,.int .i64 x,.int .i64 t,.int .i64 n,.slice sE.a sE.n sE.c,.slice L.a L.n L.c,.slice none 0 0,.slice none 0 0]) sE (ofSeq ln 1 (seg cnt ws)) k wr) (fun i _ _ _=>ln - (intOf i).toNat)
 case atStart=>exact⟨0,Nat.zero_le _,rfl,INIT.out⟩
 case round =>
  obtain⟨k,hk,rfl,SH⟩:=hrel
  clear INIT
  obtain⟨WR,eWR⟩:∃ WR,WR=wr:=⟨_,rfl⟩
  subst eWR
  obtain⟨hbA,q0A,qrA,hmb,zA,hs2',hrl'⟩:=HA.out
  have sAW:=SH.only.size
  have q0R:=q0A.only SH.only (by omega)
  obtain⟨d0,d1,d2,d3,d4,d5,d6,d7⟩:=q0R.cfg
  by_cases hlt:k<ln
  ·have hlt':(k:Int)<(ln:Int):=by omega
   have hpl:(k+1)*pl 1≤ln*pl 1:=Nat.mul_le_mul_right _ (by omega)
   rw[Nat.add_mul,Nat.one_mul] at hpl
   have hpl2:pl 1=7+2*1:=rfl
   have xlt1:W2.heap.size<WR.heap.size:=by omega
   have slt1:xa.block<WR.heap.size:=by omega
   have bA1:Below WR.heap.size WR (WR.alloc (.cells #[.slice none 0 0,.slice none 0 0,.slice none 0 0,.slice none 0 0,.slice none 0 0,.slice none 0 0,.slice none 0 0,.slice none 0 0,.slice none 0 0] 61)):=below_new (Below.refl _ _) _
   have zA1:(WR.alloc (.cells #[.slice none 0 0,.slice none 0 0,.slice none 0 0,.slice none 0 0,.slice none 0 0,.slice none 0 0,.slice none 0 0,.slice none 0 0,.slice none 0 0] 61)).heap.size=WR.heap.size+1:=by simp
   have hS0:LayS WR W2.heap.size xa.block WR.heap.size nW ws cnt (1+k*pl 1+0) #[.slice none 0 0,.slice none 0 0,.slice none 0 0,.slice none 0 0,.slice none 0 0,.slice none 0 0,.slice none 0 0,.slice none 0 0,.slice none 0 0] (WR.alloc (.cells #[.slice none 0 0,.slice none 0 0,.slice none 0 0,.slice none 0 0,.slice none 0 0,.slice none 0 0,.slice none 0 0,.slice none 0 0,.slice none 0 0] 61)):=⟨Only.of_below bA1,SH.cut.below bA1,Blk.new 61 WR _⟩
   have HSH:=hidden_ SH
   have HQR:=hidden_ (And.intro q0R (And.intro zA1 (And.intro hpl hpl2)))
   have CC:Hid ((cnt (1+k*pl 1+0):Int)=(D:Int)∧(cnt (1+k*pl 1+1):Int)=(DD:Int)∧(cnt (1+k*pl 1+2):Int)=(DD:Int)∧(cnt (1+k*pl 1+3):Int)=(DD:Int)∧(cnt (1+k*pl 1+4):Int)=(DD:Int)∧(cnt (1+k*pl 1+5):Int)=(D:Int)∧(cnt (1+k*pl 1+6):Int)=(XD:Int)) :=
    ⟨by rw[HCN.out.1 k 0 hlt (by omega)];rfl,by rw[HCN.out.1 k 1 hlt (by omega)];rfl,by rw[HCN.out.1 k 2 hlt (by omega)];rfl,by rw[HCN.out.1 k 3 hlt (by omega)];rfl,by rw[HCN.out.1 k 4 hlt (by omega)];rfl,by rw[HCN.out.1 k 5 hlt (by omega)];rfl,by rw[HCN.out.1 k 6 hlt (by omega)];rfl⟩
   clear SH q0R q0A qrA hbA bA1 zA1 hmb zA hs2' hrl' hpl hpl2
   go_wp2_with (first
    | (go_at_call 61;refine (K55 (1+k*pl 1+0) (D:Int) _ (by have:=HQR.out.2.2;omega) CC.out.1 hS0.cut).mono ?_;rintro e Wc0 ⟨s0,rfl,ts0,hc0,on0⟩;obtain⟨V0,eV0,z0,o0,hS1,kp0,kq0⟩:=hS0.step (Nat.le_refl _) xlt1 slt1 on0 hc0 0 rfl s0 (cs':=#[.slice s0.a s0.n s0.c,.slice none 0 0,.slice none 0 0,.slice none 0 0,.slice none 0 0,.slice none 0 0,.slice none 0 0,.slice none 0 0,.slice none 0 0]) rfl;have t0:TS WR.heap.size V0 s0 (seg cnt ws (1+k*pl 1+0)):=(ts0.step kq0).le (by have:=HQR.out.2.1;omega); clear hS0 ts0 hc0 on0 d0 d1 d2 d3 d4 d5 d6 d7)
    | (go_at_call 61;refine (K55 (1+k*pl 1+1) (DD:Int) _ (by have:=HQR.out.2.2;omega) CC.out.2.1 hS1.cut).mono ?_;rintro e Wc1 ⟨s1,rfl,ts1,hc1,on1⟩;obtain⟨V1,eV1,z1,o1,hS2,kp1,kq1⟩:=hS1.step (Nat.le_refl _) xlt1 slt1 on1 hc1 1 rfl s1 (cs':=#[.slice s0.a s0.n s0.c,.slice s1.a s1.n s1.c,.slice none 0 0,.slice none 0 0,.slice none 0 0,.slice none 0 0,.slice none 0 0,.slice none 0 0,.slice none 0 0]) rfl;have t1:TS WR.heap.size V1 s1 (seg cnt ws (1+k*pl 1+1)):=(ts1.step kq1).le hS1.only.size;replace t0:=t0.step kp1;clear hS1 ts1 hc1 on1 eV0 z0 o0 kp0 kq0)
    | (go_at_call 61;refine (K55 (1+k*pl 1+2) (DD:Int) _ (by have:=HQR.out.2.2;omega) CC.out.2.2.1 hS2.cut).mono ?_;rintro e Wc2 ⟨s2,rfl,ts2,hc2,on2⟩;obtain⟨V2,eV2,z2,o2,hS3,kp2,kq2⟩:=hS2.step (Nat.le_refl _) xlt1 slt1 on2 hc2 2 rfl s2 (cs':=#[.slice s0.a s0.n s0.c,.slice s1.a s1.n s1.c,.slice s2.a s2.n s2.c,.slice none 0 0,.slice none 0 0,.slice none 0 0,.slice none 0 0,.slice none 0 0,.slice none 0 0]) rfl;have t2:TS WR.heap.size V2 s2 (seg cnt ws (1+k*pl 1+2)):=(ts2.step kq2).le hS2.only.size;replace t0:=t0.step kp2;replace t1:=t1.step kp2;clear hS2 ts2 hc2 on2 eV1 z1 o1 kp1 kq1)
    | (go_at_call 61;refine (K55 (1+k*pl 1+3) (DD:Int) _ (by have:=HQR.out.2.2;omega) CC.out.2.2.2.1 hS3.cut).mono ?_;rintro e Wc3 ⟨s3,rfl,ts3,hc3,on3⟩;obtain⟨V3,eV3,z3,o3,hS4,kp3,kq3⟩:=hS3.step (Nat.le_refl _) xlt1 slt1 on3 hc3 3 rfl s3 (cs':=#[.slice s0.a s0.n s0.c,.slice s1.a s1.n s1.c,.slice s2.a s2.n s2.c,.slice s3.a s3.n s3.c,.slice none 0 0,.slice none 0 0,.slice none 0 0,.slice none 0 0,.slice none 0 0]) rfl;have t3:TS WR.heap.size V3 s3 (seg cnt ws (1+k*pl 1+3)):=(ts3.step kq3).le hS3.only.size;replace t0:=t0.step kp3;replace t1:=t1.step kp3;replace t2:=t2.step kp3;clear hS3 ts3 hc3 on3 eV2 z2 o2 kp2 kq2)
    | (go_at_call 61;refine (K55 (1+k*pl 1+4) (DD:Int) _ (by have:=HQR.out.2.2;omega) CC.out.2.2.2.2.1 hS4.cut).mono ?_;rintro e Wc4 ⟨s4,rfl,ts4,hc4,on4⟩;obtain⟨V4,eV4,z4,o4,hS5,kp4,kq4⟩:=hS4.step (Nat.le_refl _) xlt1 slt1 on4 hc4 4 rfl s4 (cs':=#[.slice s0.a s0.n s0.c,.slice s1.a s1.n s1.c,.slice s2.a s2.n s2.c,.slice s3.a s3.n s3.c,.slice s4.a s4.n s4.c,.slice none 0 0,.slice none 0 0,.slice none 0 0,.slice none 0 0]) rfl;have t4:TS WR.heap.size V4 s4 (seg cnt ws (1+k*pl 1+4)):=(ts4.step kq4).le hS4.only.size;replace t0:=t0.step kp4;replace t1:=t1.step kp4;replace t2:=t2.step kp4;replace t3:=t3.step kp4;clear hS4 ts4 hc4 on4 eV3 z3 o3 kp3 kq3)
    | (go_at_call 61;refine (K55 (1+k*pl 1+5) (D:Int) _ (by have:=HQR.out.2.2;omega) CC.out.2.2.2.2.2.1 hS5.cut).mono ?_;rintro e Wc5 ⟨s5,rfl,ts5,hc5,on5⟩;obtain⟨V5,eV5,z5,o5,hS6,kp5,kq5⟩:=hS5.step (Nat.le_refl _) xlt1 slt1 on5 hc5 5 rfl s5 (cs':=#[.slice s0.a s0.n s0.c,.slice s1.a s1.n s1.c,.slice s2.a s2.n s2.c,.slice s3.a s3.n s3.c,.slice s4.a s4.n s4.c,.slice s5.a s5.n s5.c,.slice none 0 0,.slice none 0 0,.slice none 0 0]) rfl;have t5:TS WR.heap.size V5 s5 (seg cnt ws (1+k*pl 1+5)):=(ts5.step kq5).le hS5.only.size;replace t0:=t0.step kp5;replace t1:=t1.step kp5;replace t2:=t2.step kp5;replace t3:=t3.step kp5;replace t4:=t4.step kp5;clear hS5 ts5 hc5 on5 eV4 z4 o4 kp4 kq4;obtain⟨d0,d1,d2,d3,d4,d5,d6,d7⟩:=(HQR.out.1.only hS6.only (by omega)).cfg)
    | (go_at_call 61;refine (K55 (1+k*pl 1+6) (XD:Int) _ (by have:=HQR.out.2.2;omega) CC.out.2.2.2.2.2.2 hS6.cut).mono ?_;rintro e Wc6 ⟨s6,rfl,ts6,hc6,on6⟩;obtain⟨V6,eV6,z6,o6,hS7,kp6,kq6⟩:=hS6.step (Nat.le_refl _) xlt1 slt1 on6 hc6 6 rfl s6 (cs':=#[.slice s0.a s0.n s0.c,.slice s1.a s1.n s1.c,.slice s2.a s2.n s2.c,.slice s3.a s3.n s3.c,.slice s4.a s4.n s4.c,.slice s5.a s5.n s5.c,.slice s6.a s6.n s6.c,.slice none 0 0,.slice none 0 0]) rfl;have t6:TS WR.heap.size V6 s6 (seg cnt ws (1+k*pl 1+6)):=(ts6.step kq6).le hS6.only.size;replace t0:=t0.step kp6;replace t1:=t1.step kp6;replace t2:=t2.step kp6;replace t3:=t3.step kp6;replace t4:=t4.step kp6;replace t5:=t5.step kp6;clear hS6 ts6 hc6 on6 eV5 z5 o5 kp5 kq5))
   clear z6 o6 eV6 kp6 kq6 d0 d1 d2 d3 d4 d5 d6 d7
   have NI0:Hid (NetI WR V6 W2.heap.size xa.block WR.heap.size nW ws cnt (1+k*pl 1+7) (fun uu dd=>#[.slice s0.a s0.n s0.c,.slice s1.a s1.n s1.c,.slice s2.a s2.n s2.c,.slice s3.a s3.n s3.c,.slice s4.a s4.n s4.c,.slice s5.a s5.n s5.c,.slice s6.a s6.n s6.c,.slice uu.a uu.n uu.c,.slice dd.a dd.n dd.c]) ((ofSeq ln 1 (seg cnt ws)).u k) ((ofSeq ln 1 (seg cnt ws)).d k) 0 V6):=⟨hS7.only,hS7.cut,⟨⟨none,0,0⟩,⟨none,0,0⟩,(fun _=>SL.nought),(fun _=>SL.nought),hS7.blk,TG.nil _ _ _ _,TG.nil _ _ _ _,(fun g hg=>by cases hg)⟩,Keeps.refl _ _,Nat.le_refl _⟩
   have HT:=hidden_ (And.intro t0 (And.intro t1 (And.intro t2 (And.intro t3 (And.intro t4 (And.intro t5 t6))))))
   clear t0 t1 t2 t3 t4 t5 t6 hS7
   go_loopw [11] (fun j wr=>∃ q:Nat,q≤1∧j=.int .i64 q∧NetI WR V6 W2.heap.size xa.block WR.heap.size nW ws cnt (1+k*pl 1+7) (fun uu dd=>#[.slice s0.a s0.n s0.c,.slice s1.a s1.n s1.c,.slice s2.a s2.n s2.c,.slice s3.a s3.n s3.c,.slice s4.a s4.n s4.c,.slice s5.a s5.n s5.c,.slice s6.a s6.n s6.c,.slice uu.a uu.n uu.c,.slice dd.a dd.n dd.c]) ((ofSeq ln 1 (seg cnt ws)).u k) ((ofSeq ln 1 (seg cnt ws)).d k) q wr) (fun j _=>1 - (intOf j).toNat)
   case atStart=>exact⟨0,Nat.zero_le _,rfl,NI0.out⟩
   case round =>
    obtain⟨q,hq,rfl,NI⟩:=hrel
    clear NI0
    have q0q:=HQR.out.1.only NI.only (by omega)
    obtain⟨d0,d1,d2,d3,d4,d5,d6,d7⟩:=q0q.cfg
    by_cases hl2:q<1
    ·have hz3:(q:Int)<1:=by omega
     obtain⟨uu,dd,RU,RD,qlb,tU,tD,hap⟩:=NI.nets
     have HNI:=hidden_ NI
     have hsz:=NI.only.size
     clear NI q0q
     go_wp2
     refine net_regionU (D:Int) h (ln:Int) v u x t n 88 7 W2.heap.size w.heap.size xa.block WR.heap.size nW (1+k*pl 1+7+2*q) q WR.heap.size ws cnt _ uu.a uu.n uu.c RU ((ofSeq ln 1 (seg cnt ws)).u k) WR (by kernel_rfl) rfl ⟨_,rfl,rfl,rfl,rfl,by kernel_rfl⟩ ⟨_,rfl,rfl,rfl,rfl,by kernel_rfl⟩ ⟨_,rfl,rfl,rfl,rfl,by kernel_rfl⟩ ⟨_,rfl,rfl,rfl,rfl,by kernel_rfl⟩ ⟨_,rfl,rfl,rfl,rfl,by kernel_rfl⟩ ⟨_,rfl,rfl,rfl,rfl,by kernel_rfl⟩ ⟨_,rfl,rfl,rfl,rfl,by kernel_rfl⟩ ⟨_,rfl,rfl,rfl,rfl,by kernel_rfl⟩ ⟨_,rfl,rfl,rfl,rfl,by kernel_rfl⟩ ⟨_,rfl,rfl,rfl,rfl,by kernel_rfl⟩ ⟨_,rfl,rfl,rfl,rfl,by kernel_rfl⟩ ⟨_,rfl,rfl,rfl,rfl,by kernel_rfl⟩ (fun w=>by rw[HCN.out.2.1 k q hlt hl2];go_simp;exact wrap_fits (by omega) (by omega)) (by decide) (Nat.le_of_ble_eq_true rfl) (by decide) HQR.out.1 rfl rfl rfl rfl HNI.out.only HNI.out.cut (HCN.out.2.2.2.2.2.2 _ (by have:=HQR.out.2.2;omega)) hn (by omega) (by omega) xlt1 slt1 (Nat.le_refl _) (Nat.le_refl _) hsz qlb rfl tU rfl (by omega) ?_
     intro a X1 vU SU hs hd hkp onX cutX blkX tgX obX k46X kbX szX
     have ep:=frame_puts [88,89,90,91,92,93,94,95,96,97,98] hs hd (fun s h'=>hkp s (by simp at h';omega))
     simp only[List.foldl] at ep
     clear hs hd hkp d0 d1 d2 d3 d4 d5 d6 d7
     generalize a.tmps.getD 88 undef=g88,a.tmps.getD 89 undef=g89,a.tmps.getD 90 undef=g90,a.tmps.getD 91 undef=g91,a.tmps.getD 92 undef=g92,a.tmps.getD 93 undef=g93,a.tmps.getD 94 undef=g94,a.tmps.getD 95 undef=g95,a.tmps.getD 96 undef=g96,a.tmps.getD 97 undef=g97,a.tmps.getD 98 undef=g98 at ep
     simp only[Act.put,List.setIfInBounds_toArray,List.set_cons_succ,List.set_cons_zero] at ep
     subst ep
     obtain⟨ua,un,uc,euv⟩:=tgX.slice
     subst euv
     have tDX:=tD.but kbX (fun g hg hu=>hap g hu hg) k46X
     go_wp2
     refine net_regionD (D:Int) h (ln:Int) v u x t n 99 8 W2.heap.size w.heap.size xa.block WR.heap.size nW (1+k*pl 1+7+2*q+1) q WR.heap.size ws cnt _ dd.a dd.n dd.c RD ((ofSeq ln 1 (seg cnt ws)).d k) WR (by kernel_rfl) rfl ⟨_,rfl,rfl,rfl,rfl,by kernel_rfl⟩ ⟨_,rfl,rfl,rfl,rfl,by kernel_rfl⟩ ⟨_,rfl,rfl,rfl,rfl,by kernel_rfl⟩ ⟨_,rfl,rfl,rfl,rfl,by kernel_rfl⟩ ⟨_,rfl,rfl,rfl,rfl,by kernel_rfl⟩ ⟨_,rfl,rfl,rfl,rfl,by kernel_rfl⟩ ⟨_,rfl,rfl,rfl,rfl,by kernel_rfl⟩ ⟨_,rfl,rfl,rfl,rfl,by kernel_rfl⟩ ⟨_,rfl,rfl,rfl,rfl,by kernel_rfl⟩ ⟨_,rfl,rfl,rfl,rfl,by kernel_rfl⟩ ⟨_,rfl,rfl,rfl,rfl,by kernel_rfl⟩ ⟨_,rfl,rfl,rfl,rfl,by kernel_rfl⟩ (fun w=>by rw[HCN.out.2.2.1 k q hlt hl2];go_simp;exact wrap_fits (by omega) (by omega)) (by decide) (Nat.le_of_ble_eq_true rfl) (by decide) HQR.out.1 rfl rfl rfl rfl onX cutX (HCN.out.2.2.2.2.2.2 _ (by have:=HQR.out.2.2;omega)) hn (by omega) (by omega) xlt1 slt1 (Nat.le_refl _) (Nat.le_refl _) (Nat.le_trans hsz szX) blkX rfl tDX rfl (by omega) ?_
     intro a X2 vD SD hs hd hkp onY cutY blkY tgY obY k46Y kbY szY
     have ep:=frame_puts [99,100,101,102,103,104,105,106,107,108,109] hs hd (fun s h'=>hkp s (by simp at h';omega))
     simp only[List.foldl] at ep
     clear hs hd hkp
     generalize a.tmps.getD 99 undef=g99,a.tmps.getD 100 undef=g100,a.tmps.getD 101 undef=g101,a.tmps.getD 102 undef=g102,a.tmps.getD 103 undef=g103,a.tmps.getD 104 undef=g104,a.tmps.getD 105 undef=g105,a.tmps.getD 106 undef=g106,a.tmps.getD 107 undef=g107,a.tmps.getD 108 undef=g108,a.tmps.getD 109 undef=g109 at ep
     simp only[Act.put,List.setIfInBounds_toArray,List.set_cons_succ,List.set_cons_zero] at ep
     subst ep
     obtain⟨da,dn,dc,edv⟩:=tgY.slice
     subst edv
     have hap2:=apart_of hap tD tgX obX obY
     have tUY:=tgX.but kbY (fun g hg hd'=>apart_of hap tD tgX obX (.inl rfl) g hg hd') k46Y
     have NX:Hid (NetI WR V6 W2.heap.size xa.block WR.heap.size nW ws cnt (1+k*pl 1+7) (fun uu dd=>#[.slice s0.a s0.n s0.c,.slice s1.a s1.n s1.c,.slice s2.a s2.n s2.c,.slice s3.a s3.n s3.c,.slice s4.a s4.n s4.c,.slice s5.a s5.n s5.c,.slice s6.a s6.n s6.c,.slice uu.a uu.n uu.c,.slice dd.a dd.n dd.c]) ((ofSeq ln 1 (seg cnt ws)).u k) ((ofSeq ln 1 (seg cnt ws)).d k) (q+1) X2):=⟨onY,(by rw[show 1+k*pl 1+7+2*(q+1)=1+k*pl 1+7+2*q+1+1 by omega];exact cutY),⟨⟨ua,un,uc⟩,⟨da,dn,dc⟩,_,_,blkY,tUY,tgY,hap2⟩,(HNI.out.k46.trans k46X).trans k46Y,Nat.le_trans (Nat.le_trans HNI.out.size szX) szY⟩
     clear onY cutY blkY tgY obY k46Y kbY szY onX cutX blkX tgX obX k46X kbX szX tDX tU tD hap hap2 tUY HNI qlb
     go_wp2
     go_roundw
     case rel=>exact⟨q+1,by omega,by go_num,NX.out⟩
     case measure=>simp[intOf];omega
    ·have hz3:¬(q:Int)<1:=by omega
     have hz4:decide ((q:Int)<1)=false:=by simp;omega
     obtain rfl:1=q:=by omega
     obtain⟨uu,dd,RU,RD,qlb,tU,tD,hap⟩:=NI.nets
     obtain⟨Y,eY⟩:∃ Y,wr=Y:=⟨_,rfl⟩
     subst eY
     have kWR:∀ t,t≠114→Keeps t WR wr:=fun t ht=>HSH.out.cut.keeps NI.only ht
     obtain⟨t0,t1,t2,t3,t4,t5,t6⟩:=HT.out
     obtain⟨L,YL,UL,DL,qmb,tL⟩:=HSH.out.mod
     have qmy:=(kWR 34 (by decide)).blk qmb
     have tLy:=tL.step (kWR 61 (by decide)) (kWR 118 (by decide)) (kWR 31 (by decide))
     have tEy:=HSH.out.te.step (kWR 118 (by decide))
     obtain⟨A3,eA3⟩:∃ A3,wr.alloc (.cells #[.slice s0.a s0.n s0.c,.slice s1.a s1.n s1.c,.slice s2.a s2.n s2.c,.slice s3.a s3.n s3.c,.slice s4.a s4.n s4.c,.slice s5.a s5.n s5.c,.slice s6.a s6.n s6.c,.slice uu.a uu.n uu.c,.slice dd.a dd.n dd.c] 61)=A3:=⟨_,rfl⟩
     have bA3:Below wr.heap.size wr A3:=eA3 ▸ below_new (Below.refl _ _) _
     have gA3:Blk 61 A3 wr.heap.size ((List.range 9).map fun r=>(nine s0 s1 s2 s3 s4 s5 s6 uu dd r).v).toArray:=eA3 ▸ Blk.new 61 wr _
     have sW:=NI.only.size
     have K46:Keeps 118 V6 A3:=NI.k46.trans (Keeps.of_below bA3)
     have sAW2:=HSH.out.only.size
     have hY:TY A.heap.size A3 (nine s0 s1 s2 s3 s4 s5 s6 uu dd) RU RD ((ofSeq ln 1 (seg cnt ws)).f k) ((ofSeq ln 1 (seg cnt ws)).un k) ((ofSeq ln 1 (seg cnt ws)).dn k) ((ofSeq ln 1 (seg cnt ws)).u k) ((ofSeq ln 1 (seg cnt ws)).d k):=⟨fun j hj=>by
      rcases (show j=0∨j=1∨j=2∨j=3∨j=4∨j=5∨j=6 by omega) with rfl | rfl | rfl | rfl | rfl | rfl | rfl
      ·exact (t0.step K46).le sAW2
      ·exact (t1.step K46).le sAW2
      ·exact (t2.step K46).le sAW2
      ·exact (t3.step K46).le sAW2
      ·exact (t4.step K46).le sAW2
      ·exact (t5.step K46).le sAW2
      ·exact (t6.step K46).le sAW2,(tU.below (B':=0) bA3).le sAW2,(tD.below (B':=0) bA3).le sAW2⟩
     have c0:=qlb.cell 0 rfl
     have c1:=qlb.cell 1 rfl
     have c2:=qlb.cell 2 rfl
     have c3:=qlb.cell 3 rfl
     have c4:=qlb.cell 4 rfl
     have c5:=qlb.cell 5 rfl
     have c6:=qlb.cell 6 rfl
     have c7:=qlb.cell 7 rfl
     have c8:=qlb.cell 8 rfl
     have c9:=qmy.cell 9 rfl
     have tL3:=tLy.below bA3
     have tE3:=tEy.below bA3
     have qm3:=qmy.kept bA3
     have on3':Only W2.heap.size A A3:=(HSH.out.only.trans NI.only).trans (Only.of_below bA3)
     have cut3:=NI.cut.below bA3
     have hmb':=HA.out.2.2.2.1
     have zA':=HA.out.2.2.2.2.1
     clear NI q0q kWR t0 t1 t2 t3 t4 t5 t6 qmb tL qmy tLy tEy K46 tU tD hap qlb bA3
     go_wp2_with (first
      | (at_builtin;refine wpList_layer2 rfl (.tmp 111) (.tmp 113) rfl A.heap.size k _ YL UL DL (ofSeq ln 1 (seg cnt ws)) _ RU RD wr.heap.size 1 rfl rfl tL3 gA3 hY (by omega) on3'.size ?_;intro v' w6 hg6 hob6 k29 k46 tL6;obtain⟨Ls,eLs⟩:=tL6.slice;subst eLs;have qm6:=k29.blk qm3;obtain⟨V9,eV9,z9,o9,q9,on9,k9⟩:=fin12 qm6 9 Ls (cs':=#[.int .i64 (D:Int),.int .i64 h,.int .i64 (ln:Int),.int .i64 v,.int .i64 u,.int .i64 x,.int .i64 t,.int .i64 n,.slice sE.a sE.n sE.c,.slice Ls.a Ls.n Ls.c,.slice none 0 0,.slice none 0 0]) rfl rfl;have NS:Hid (ShI A W2.heap.size xa.block mb nW ws cnt 1 (fun sE L=>#[.int .i64 (D:Int),.int .i64 h,.int .i64 (ln:Int),.int .i64 v,.int .i64 u,.int .i64 x,.int .i64 t,.int .i64 n,.slice sE.a sE.n sE.c,.slice L.a L.n L.c,.slice none 0 0,.slice none 0 0]) sE (ofSeq ln 1 (seg cnt ws)) (k+1) V9):=⟨(on3'.grown hg6 hob6).new hmb' on9,(by rw[show 1+(k+1)*pl 1=1+k*pl 1+7+2*1 by rw[Nat.add_mul];show _=1+k*(7+2*1)+7+2*1;show 1+(k*(7+2*1)+1*(7+2*1))=_;omega];exact (cut3.grown hg6 (fun e=>by have:=hob6 _ e;omega) (fun e=>by have:=hob6 _ e;omega)).only on9 (by omega) (by omega)),(tE3.step k46).step (k9 118 (by decide)),⟨Ls,_,_,_,q9,tL6.step (k9 61 (by decide)) (k9 118 (by decide)) (k9 31 (by decide))⟩⟩;clear hg6 hob6 k29 k46 tL6 qm6 q9 on9 k9 tL3 gA3 hY tE3 qm3 on3' cut3)
      )
     go_roundw
     case rel=>exact⟨k+1,by omega,by go_num,NS.out⟩
     case measure=>simp[intOf];omega
  ·have hge:¬(k:Int)<(ln:Int):=by omega
   have hge':decide ((k:Int)<(ln:Int))=false:=by simp;omega
   have ekl:k=ln:=by omega
   obtain⟨L,YL,UL,DL,qmb,tL⟩:=SH.mod
   have tE:=SH.te
   have onA:=SH.only
   have hcN:CutAt WR W2.heap.size xa.block nW ws (offs cnt (1+ln*pl 1)):=by rw[←ekl];exact SH.cut
   have tL':TL A.heap.size WR (.slice L.a L.n L.c) ln YL UL DL (ofSeq ln 1 (seg cnt ws)):=by have h':=tL;rw[show k=ln from ekl] at h';exact h'
   have hqr:=HA.out.2.2.1
   have hbA':=HA.out.1
   have hmb':=HA.out.2.2.2.1
   have hsz7:=HA.out.2.2.2.2
   have EK:=hidden_ ekl
   clear SH tL ekl hbA q0A qrA hmb zA hs2' hrl'
   go_wp2_with (first
    | (go_at_call 61;refine (K55 (1+ln*pl 1) (D:Int) _ (by omega) (by rw[HCN.out.2.2.2.1]) hcN).mono ?_;rintro e X1 ⟨sN,rfl,tN,hcO,on1⟩;have kx:∀ t,t≠114→Keeps t WR X1:=fun t ht=>hcN.keeps on1 ht;obtain⟨X2,eX2,z10,o10,q2,on2,k2⟩:=fin12 ((kx 34 (by decide)).blk qmb) 10 sN (cs':=#[.int .i64 (D:Int),.int .i64 h,.int .i64 (ln:Int),.int .i64 v,.int .i64 u,.int .i64 x,.int .i64 t,.int .i64 n,.slice sE.a sE.n sE.c,.slice L.a L.n L.c,.slice sN.a sN.n sN.c,.slice none 0 0]) rfl rfl;have k12:∀ t,t≠114→t≠34→Keeps t WR X2:=fun t h1 h2=>(kx t h1).trans (k2 t h2);have onX2:Only W2.heap.size A X2:=(onA.trans on1).new hmb' on2;replace tE:=tE.step (k12 118 (by decide) (by decide));replace tN:=(tN.le onA.size).step (k2 118 (by decide));replace tL':=tL'.step (k12 61 (by decide) (by decide)) (k12 118 (by decide) (by decide)) (k12 31 (by decide) (by decide));replace hcO:=hcO.only on2 (by have:=hsz7.1;omega) (by have:=hsz7.1;omega);clear hcN on1 kx on2 k2 k12 qmb d0 d1 d2 d3 d4 d5 d6 d7;obtain⟨d0,d1,d2,d3,d4,d5,d6,d7⟩:=(HA.out.2.1.only onX2 (by omega)).cfg)
    | (go_at_call 61;refine (K55 (1+ln*pl 1+1) (VD:Int) _ (by omega) (by rw[HCN.out.2.2.2.2.1]) hcO).mono ?_;rintro e X3 ⟨sO,rfl,tO,hcX,on3⟩;have kx:∀ t,t≠114→Keeps t X2 X3:=fun t ht=>hcO.keeps on3 ht;obtain⟨X4,eX4,z11,o11,q4,on4,k4⟩:=fin12 ((kx 34 (by decide)).blk q2) 11 sO (cs':=#[.int .i64 (D:Int),.int .i64 h,.int .i64 (ln:Int),.int .i64 v,.int .i64 u,.int .i64 x,.int .i64 t,.int .i64 n,.slice sE.a sE.n sE.c,.slice L.a L.n L.c,.slice sN.a sN.n sN.c,.slice sO.a sO.n sO.c]) rfl rfl;have k34:∀ t,t≠114→t≠34→Keeps t X2 X4:=fun t h1 h2=>(kx t h1).trans (k4 t h2);have onX4:Only W2.heap.size A X4:=(onX2.trans on3).new hmb' on4;replace tE:=tE.step (k34 118 (by decide) (by decide));replace tN:=tN.step (k34 118 (by decide) (by decide));replace tO:=(tO.le onX2.size).step (k4 118 (by decide));replace tL':=tL'.step (k34 61 (by decide) (by decide)) (k34 118 (by decide) (by decide)) (k34 31 (by decide) (by decide));have qr4:=hqr.only onX4 (by have:=hsz7;omega);clear hcO on3 kx on4 k4 k34 q2 onX2 hcX d0 d1 d2 d3 d4 d5 d6 d7 z10 o10 eX2;obtain⟨a0,a1,a2,a3,a4,a5,a6,a7,a8,a9,a10,a11⟩:=q4.c12;obtain⟨r0,r1,r2,r3,r4,r5,r6,r7,r8,r9,r10,r11⟩:=qr4.c12;obtain⟨f0,f1,f2,f3,f4,f5,f6,f7,f8,f9,f10,f11⟩:=qr4.o12))
   obtain⟨W6,eW6,q6,only6,hz6⟩:=set12 qr4 (.int .i64 (D:Int)) (.int .i64 h) (.int .i64 (ln:Int)) (.int .i64 v) (.int .i64 u) (.int .i64 x) (.int .i64 t) (.int .i64 n) (.slice sE.a sE.n sE.c) (.slice L.a L.n L.c) (.slice sN.a sN.n sN.c) (.slice sO.a sO.n sO.c)
   rw[eW6]
   have K6:∀ t,t≠34→Keeps t X4 W6:=fun t ht=>Keeps.of_only only6 qr4 ht
   have hle:w.heap.size≤A.heap.size:=by omega
   have tL6:TL w.heap.size W6 (.slice L.a L.n L.c) (ofSeq ln 1 (seg cnt ws)).ln YL UL DL (ofSeq ln 1 (seg cnt ws)):=(tL'.step (K6 61 (by decide)) (K6 118 (by decide)) (K6 31 (by decide))).le hle
   obtain⟨L2,eL2,hN⟩:=tL6.new (E:=sE) (N:=sN) (O:=sO) ((tE.step (K6 118 (by decide))).le hle) ((tN.step (K6 118 (by decide))).le hle) ((tO.step (K6 118 (by decide))).le hle)
   obtain rfl:L=L2:=SL.v_inj eL2
   have bX4:Below w.heap.size w X4:=Only.below hbA' (by omega) hbA'.size onX4
   have bW6:Below w.heap.size w W6:=Only.below bX4 (by omega) bX4.size only6
   refine bodyPost_ret (v:=.tuple #[.agg #[.int .i64 (D:Int),.int .i64 h,.int .i64 (ln:Int),.int .i64 v,.int .i64 u,.int .i64 x,.int .i64 t,.int .i64 n,.slice sE.a sE.n sE.c,.slice L.a L.n L.c,.slice sN.a sN.n sN.c,.slice sO.a sO.n sO.c],.int .i64 0]) ?_ rfl ⟨sE,L,sN,sO,YL,UL,DL,rfl,hN,bW6⟩
   obtain⟨y0,y1,y2,y3,y4,y5,y6,y7,y8,y9,y10,y11⟩:=q6.c12
   simp[results,Tryz.results33,go_sem,y0,y1,y2,y3,y4,y5,y6,y7,y8,y9,y10,y11]
end
end Go.Proofs.YtbkjhfmehemgpaaGreat
