/- Texts put together. -/
import Derived.Test.YthliomlmhfjhnaaGreatZp30
namespace Go.Proofs.YthliomlmhfjhnaaGreat
set_option maxRecDepth 20000
set_option maxHeartbeats 16000000
open Go.ChangeShapes Go.WideShapes Go.ChangeAt Go.RowKit
set_option linter.unusedVariables false
set_option linter.unusedSimpArgs false
theorem Blk.c3 {t0:TypeId}{w:World}{b:Nat}{x0 x1 x2:Value}(k:Blk t0 w b #[x0,x1,x2]):w.cell? ⟨b,0,none⟩=some x0∧w.cell? ⟨b,1,none⟩=some x1∧w.cell? ⟨b,2,none⟩=some x2:=⟨k.cell 0 rfl,k.cell 1 rfl,k.cell 2 rfl⟩
theorem Blk.o3 {t0:TypeId}{w:World}{b:Nat}{cs:Array Value}(k:Blk t0 w b cs):w.frozen? ⟨b,0,none⟩=false∧w.frozen? ⟨b,1,none⟩=false∧w.frozen? ⟨b,2,none⟩=false:=⟨k.open_ 0,k.open_ 1,k.open_ 2⟩
theorem Blk.c4 {t0:TypeId}{w:World}{b:Nat}{x0 x1 x2 x3:Value}(k:Blk t0 w b #[x0,x1,x2,x3]):w.cell? ⟨b,0,none⟩=some x0∧w.cell? ⟨b,1,none⟩=some x1∧w.cell? ⟨b,2,none⟩=some x2∧w.cell? ⟨b,3,none⟩=some x3:=⟨k.cell 0 rfl,k.cell 1 rfl,k.cell 2 rfl,k.cell 3 rfl⟩
theorem set3 {t:TypeId}{W:World}{b:Nat}{x0 x1 x2:Value}(h:Blk t W b #[x0,x1,x2])(v0 v1 v2:Value) :
  ∃ W',((W.setCell ⟨b,0,none⟩ v0).setCell ⟨b,1,none⟩ v1).setCell ⟨b,2,none⟩ v2=W'∧Blk t W' b #[v0,v1,v2]∧Only b W W'∧W'.heap.size=W.heap.size:=by
 have q0:Blk t (W.setCell ⟨b,0,none⟩ v0) b #[v0,x1,x2]:=Qa4 h 0 v0 rfl
 have q1:Blk t ((W.setCell ⟨b,0,none⟩ v0).setCell ⟨b,1,none⟩ v1) b #[v0,v1,x2]:=Qa4 q0 1 v1 rfl
 have q2:Blk t (((W.setCell ⟨b,0,none⟩ v0).setCell ⟨b,1,none⟩ v1).setCell ⟨b,2,none⟩ v2) b #[v0,v1,v2]:=Qa4 q1 2 v2 rfl
 exact⟨_,rfl,q2,((Only.set b 0 W v0).trans (Only.set b 1 _ v1)).trans (Only.set b 2 _ v2),by simp⟩
theorem QaN (n:Int)(w:World):Calls Tryz.prog 56 #[.bool true,I4 n] w fun e w'=>e=.returned (.tuple #[])∧w'=w:=by
 have hnot:∀ (x:Bool) (w:World),(Op.unary .not (.bool x)).run Tryz.prog w=.ok (.bool (!x)) w:=fun _ _=>rfl
 go_enter Tryz.func56,Tryz.ntmps56
 go_wp2
 go_end0
 exact⟨rfl,rfl⟩
theorem Qbw (n:Int)(w:World):Calls Tryz.prog 56 #[.bool false,I4 n] w fun e w'=>e=.panicked [{ v:=.iface 35 (I4 n),recovered:=false }]∧w'=w:=by
 have hnot:∀ (x:Bool) (w:World),(Op.unary .not (.bool x)).run Tryz.prog w=.ok (.bool (!x)) w:=fun _ _=>rfl
 go_enter Tryz.func56,Tryz.ntmps56
 go_wp2
 exact⟨rfl,rfl,rfl⟩
theorem QaY (a:Option Addr)(n c:Nat)(w:World):Calls Tryz.prog 48 #[.slice a n c,I4 0] w fun e w'=>e=.returned (.slice a n c)∧w'=w:=by
 have kn:=QaN 0
 go_enter Tryz.func48,Tryz.ntmps48
 go_wp2_with (go_at_call 56;refine (kn _).mono ?_;rintro e w' ⟨rfl,rfl⟩)
 go_ret
 exact⟨rfl,rfl⟩
theorem Qk7 (a:Option Addr)(n c:Nat)(r:Int)(h:¬r=0)(w:World):Calls Tryz.prog 48 #[.slice a n c,I4 r] w fun e w'=>e=.panicked [{ v:=.iface 35 (I4 r),recovered:=false }]∧w'=w:=by
 have kn:=Qbw r
 have hr:(r==0)=false:=by simp[h]
 go_enter Tryz.func48,Tryz.ntmps48
 go_wp2_with (go_at_call 56;refine (kn _).mono ?_;rintro e w' ⟨rfl,rfl⟩)
 exact⟨rfl,rfl,rfl⟩
theorem QdQ (w:World):Calls Tryz.prog 28 #[.nilIface] w fun e w'=>e=.returned (I4 0)∧w'=w:=by
 go_enter Tryz.func28,Tryz.ntmps28
 go_wp2
 go_ret
 exact⟨rfl,rfl⟩
theorem QdR (n:Int)(w:World):Calls Tryz.prog 28 #[.iface 35 (I4 n)] w fun e w'=>e=.returned (I4 n)∧w'=w:=by
 have ha:∀ W,(Instr.typeAssert (.iface 35 (I4 n)) 20 35 true).run Tryz.prog W=.ok (.tuple #[I4 n,.bool true]) W:=fun W=>by kernel_rfl
 have he:∀ W,(binOp .eql 20 (.iface 35 (I4 n)) .nilIface).run Tryz.prog W=.ok (.bool false) W:=fun W=>by kernel_rfl
 go_enter Tryz.func28,Tryz.ntmps28
 go_wp2
 go_ret
 exact⟨rfl,rfl⟩
theorem Qdk (p:Addr)(x n:Int)(older:List PanicEntry)(w:World)(hc:w.cell? p=some (I4 x))(hz:w.frozen? p=false) :
  CallsD Tryz.prog 43 #[.pointer (some p)] (.panicking ({ v:=.iface 35 (I4 n),recovered:=false } :: older)) w fun e u' w' =>
   e=.returned (.tuple #[])∧u'=.panicking ({ v:=.iface 35 (I4 n),recovered:=true } :: older)∧w'=w.setCell p (I4 n):=by
 refine callsD_of_wpS Tryz.func43 rfl fun c₀ cs hu=>?_
 have r22:∀ args w,(callFunc 28 args).run Tryz.prog w=.ok (.enter 28 args) w:=eNo Tryz.func28 (by kernel_rfl) rfl
 apply wpS_region
 simp[wpOpsS,go_sem,recoverD,hu,Tryz.ntmps43,Exit.thenS,r22,Oper.upon]
 refine (QdR n w).mono ?_
 rintro e w' ⟨rfl,rfl⟩
 simp[wpOpsS,go_sem,hc,hz,bodyPostS,results,Tryz.results43,Oper.upon]
theorem Qdj (p:Addr)(x n:Int)(older:List PanicEntry)(w:World)(hc:w.cell? p=some (I4 x))(hz:w.frozen? p=false) :
  CallsD Tryz.prog 45 #[.pointer (some p)] (.panicking ({ v:=.iface 35 (I4 n),recovered:=false } :: older)) w fun e u' w' =>
   e=.returned (.tuple #[])∧u'=.panicking ({ v:=.iface 35 (I4 n),recovered:=true } :: older)∧w'=w.setCell p (I4 n):=by
 refine callsD_of_wpS Tryz.func45 rfl fun c₀ cs hu=>?_
 have r22:∀ args w,(callFunc 28 args).run Tryz.prog w=.ok (.enter 28 args) w:=eNo Tryz.func28 (by kernel_rfl) rfl
 apply wpS_region
 simp[wpOpsS,go_sem,recoverD,hu,Tryz.ntmps45,Exit.thenS,r22,Oper.upon]
 refine (QdR n w).mono ?_
 rintro e w' ⟨rfl,rfl⟩
 simp[wpOpsS,go_sem,hc,hz,bodyPostS,results,Tryz.results45,Oper.upon]
theorem Qhj (p:Addr)(x:Int)(w:World)(hc:w.cell? p=some (I4 x))(hz:w.frozen? p=false) :
  CallsD Tryz.prog 43 #[.pointer (some p)] .returning w fun e u' w'=>e=.returned (.tuple #[])∧u'=.returning∧w'=w.setCell p (I4 0):=by
 refine callsD_of_wpS Tryz.func43 rfl fun c₀ cs hu=>?_
 have r22:∀ args w,(callFunc 28 args).run Tryz.prog w=.ok (.enter 28 args) w:=eNo Tryz.func28 (by kernel_rfl) rfl
 apply wpS_region
 simp[wpOpsS,go_sem,recoverD,hu,Tryz.ntmps43,Exit.thenS,r22,Oper.upon]
 refine (QdQ w).mono ?_
 rintro e w' ⟨rfl,rfl⟩
 cases c₀
 simp_all [wpOpsS,go_sem,hc,hz,bodyPostS,results,Tryz.results43,Oper.upon]
theorem Qhi (p:Addr)(x:Int)(w:World)(hc:w.cell? p=some (I4 x))(hz:w.frozen? p=false) :
  CallsD Tryz.prog 45 #[.pointer (some p)] .returning w fun e u' w'=>e=.returned (.tuple #[])∧u'=.returning∧w'=w.setCell p (I4 0):=by
 refine callsD_of_wpS Tryz.func45 rfl fun c₀ cs hu=>?_
 have r22:∀ args w,(callFunc 28 args).run Tryz.prog w=.ok (.enter 28 args) w:=eNo Tryz.func28 (by kernel_rfl) rfl
 apply wpS_region
 simp[wpOpsS,go_sem,recoverD,hu,Tryz.ntmps45,Exit.thenS,r22,Oper.upon]
 refine (QdQ w).mono ?_
 rintro e w' ⟨rfl,rfl⟩
 cases c₀
 simp_all [wpOpsS,go_sem,hc,hz,bodyPostS,results,Tryz.results45,Oper.upon]
theorem Qbx (d h l v u x t n:Int)(E L N O:SL)(w:World):Calls Tryz.prog 46 #[.agg #[I4 d,I4 h,I4 l,I4 v,I4 u,I4 x,I4 t,I4 n,E.w,L.w,N.w,O.w],I4 0] w fun e w'=>e=.returned (.agg #[I4 d,I4 h,I4 l,I4 v,I4 u,I4 x,I4 t,I4 n,E.w,L.w,N.w,O.w])∧Bw w w':=by
 have kn:=QaN 0
 have hb:=bNw (bNw (bS w) (.cells #[I4 d,I4 h,I4 l,I4 v,I4 u,I4 x,I4 t,I4 n,E.w,L.w,N.w,O.w] 27)) (.cells z12 27)
 have q1:Blk 27 ((w.alloc (.cells #[I4 d,I4 h,I4 l,I4 v,I4 u,I4 x,I4 t,I4 n,E.w,L.w,N.w,O.w] 27)).alloc (.cells #[I4 d,I4 h,I4 l,I4 v,I4 u,I4 x,I4 t,I4 n,E.w,L.w,N.w,O.w] 27)) (w.heap.size+1) #[I4 d,I4 h,I4 l,I4 v,I4 u,I4 x,I4 t,I4 n,E.w,L.w,N.w,O.w]:=Blk.new_at 27 (w.alloc _) _ _ (by simp)
 have hb':=bNw (bNw (bS w) (.cells #[I4 d,I4 h,I4 l,I4 v,I4 u,I4 x,I4 t,I4 n,E.w,L.w,N.w,O.w] 27)) (.cells #[I4 d,I4 h,I4 l,I4 v,I4 u,I4 x,I4 t,I4 n,E.w,L.w,N.w,O.w] 27)
 have HQ:=hdn q1
 clear q1 hb
 go_enter Tryz.func46,Tryz.ntmps46
 go_wp2_with (go_at_call 56;refine (kn _).mono ?_;rintro e w' ⟨rfl,rfl⟩)
 obtain⟨y0,y1,y2,y3,y4,y5,y6,y7,y8,y9,y10,y11⟩:=HQ.out.c12
 refine bodyPost_ret (v:=.agg #[I4 d,I4 h,I4 l,I4 v,I4 u,I4 x,I4 t,I4 n,E.w,L.w,N.w,O.w]) ?_ rfl ⟨rfl,hb'⟩
 simp[results,Tryz.results46,go_sem,y0,y1,y2,y3,y4,y5,y6,y7,y8,y9,y10,y11]
theorem Qft (d h l v u x t n:Int)(E L N O:SL)(r:Int)(h':¬r=0)(w:World):Calls Tryz.prog 46 #[.agg #[I4 d,I4 h,I4 l,I4 v,I4 u,I4 x,I4 t,I4 n,E.w,L.w,N.w,O.w],I4 r] w fun e w'=>e=.panicked [{ v:=.iface 35 (I4 r),recovered:=false }]∧Bw w w':=by
 have kn:=Qbw r
 have hr:(r==0)=false:=by simp[h']
 have hb:=bNw (bNw (bS w) (.cells #[I4 d,I4 h,I4 l,I4 v,I4 u,I4 x,I4 t,I4 n,E.w,L.w,N.w,O.w] 27)) (.cells z12 27)
 go_enter Tryz.func46,Tryz.ntmps46
 go_wp2_with (go_at_call 56;refine (kn _).mono ?_;rintro e w' ⟨rfl,rfl⟩)
 exact⟨rfl,rfl,hb⟩
theorem Qig (R S:Int)(L:SL)(w:World):Calls Tryz.prog 54 #[.agg #[I4 R,I4 S,L.w],I4 0] w fun e w'=>e=.returned (.agg #[I4 R,I4 S,L.w])∧Bw w w':=by
 have kn:=QaN 0
 have hb:=bNw (bNw (bS w) (.cells #[I4 R,I4 S,L.w] 30)) (.cells z3 30)
 have q1:Blk 30 ((w.alloc (.cells #[I4 R,I4 S,L.w] 30)).alloc (.cells #[I4 R,I4 S,L.w] 30)) (w.heap.size+1) #[I4 R,I4 S,L.w]:=Blk.new_at 30 (w.alloc _) _ _ (by simp)
 have hb':=bNw (bNw (bS w) (.cells #[I4 R,I4 S,L.w] 30)) (.cells #[I4 R,I4 S,L.w] 30)
 have HQ:=hdn q1
 clear q1 hb
 go_enter Tryz.func54,Tryz.ntmps54
 go_wp2_with (go_at_call 56;refine (kn _).mono ?_;rintro e w' ⟨rfl,rfl⟩)
 obtain⟨y0,y1,y2⟩:=HQ.out.c3
 refine bodyPost_ret (v:=.agg #[I4 R,I4 S,L.w]) ?_ rfl ⟨rfl,hb'⟩
 simp[results,Tryz.results54,go_sem,y0,y1,y2]
theorem Qjv (R S:Int)(L:SL)(r:Int)(h':¬r=0)(w:World):Calls Tryz.prog 54 #[.agg #[I4 R,I4 S,L.w],I4 r] w fun e w'=>e=.panicked [{ v:=.iface 35 (I4 r),recovered:=false }]∧Bw w w':=by
 have kn:=Qbw r
 have hr:(r==0)=false:=by simp[h']
 have hb:=bNw (bNw (bS w) (.cells #[I4 R,I4 S,L.w] 30)) (.cells z3 30)
 go_enter Tryz.func54,Tryz.ntmps54
 go_wp2_with (go_at_call 56;refine (kn _).mono ?_;rintro e w' ⟨rfl,rfl⟩)
 exact⟨rfl,rfl,hb⟩
def Qbf (N:Nat)(D:Nat→Option Nat)(a0:Act)(l:Nat→Bool)(a:Act):Prop:=∀ s,(∀ i,i<N→l i=true→D i≠some s)→a.tmps.getD s undef=a0.tmps.getD s undef
theorem QaB (N:Nat)(D:Nat→Option Nat)(a0:Act):Qbf N D a0 (fun _=>false) a0:=fun _ _=>rfl
theorem Qbf.put {N:Nat}{D:Nat→Option Nat}{a0:Act}{l:Nat→Bool}{a:Act}(h:Qbf N D a0 l a){i d:Nat}{v:Value}(hD:D i=some d)(hd:d<a.tmps.size)(hi:i<N:=by decide):Qbf N D a0 (fun j=>l j || j==i) (a.put (some d) v):=fun s hs=>by
 rw[Qby a d v s hd,if_neg (fun e=>hs i hi (by simp) (by rw[e];exact hD))]
 exact h s (fun j hj hl=>hs j hj (by simp[hl]))
theorem Qap (b f:Nat)(hf:f<8)(w:World):(Instr.fieldAt 23 (Pt b) f).run Tryz.prog w=.ok (.pointer (some ⟨b,f,none⟩)) w:=by
 rcases l8 (show f<8 by omega) with rfl|rfl|rfl|rfl|rfl|rfl|rfl|rfl<;>go_simp
def lhD (i:Nat):Option Nat:=match i with|0=>some 101|1=>some 102|2=>some 103|3=>some 104|4=>some 105|5=>some 106|6=>some 107|7=>some 108|8=>some 109|9=>some 110|10=>some 111|11=>some 112|12=>some 113|13=>some 114|14=>some 115|15=>some 116|16=>some 117|17=>some 10|18=>some 11|19=>some 12|_=>none
theorem Qf2:∀ i,i<20→∀ j,j<20→lhD i=lhD j→lhD i≠none→i=j:=by decide
theorem QmQ:∀ i,i<20→∀ d,lhD i=some d→d<118:=by
 intro i hi d h
 have:∀ i,i<20→(lhD i).all (fun d=>decide (d<118))=true:=by decide
 have:=this i hi
 rw[h] at this
 simpa using this
def lhF (cb D0 qc kc vc:Nat)(qa ka va:Option Addr)(hh p:Int)(OQ OK:List Int)(i:Nat)(q:Value)(w:World):Prop:=match i with
 | 0=>q=.slice qa D0 qc
 | 1=>q=.pointer (some ⟨cb,1,none⟩)
 | 2=>q=I4 hh
 | 3=>q=I4 p
 | 4=>∃ b bc,q=.tuple #[.slice b D0 bc,I4 0]∧Reads .i64 w b D0 OQ∧D0≤bc
 | 5=>∃ b bc,q=.slice b D0 bc∧Reads .i64 w b D0 OQ∧D0≤bc
 | 6=>q=I4 0
 | 7=>∃ b bc,q=.slice b D0 bc∧Reads .i64 w b D0 OQ∧D0≤bc
 | 8=>q=.slice ka D0 kc
 | 9=>q=.pointer (some ⟨cb,1,none⟩)
 | 10=>q=I4 hh
 | 11=>q=I4 p
 | 12=>∃ b bc,q=.tuple #[.slice b D0 bc,I4 0]∧Reads .i64 w b D0 OK∧D0≤bc
 | 13=>∃ b bc,q=.slice b D0 bc∧Reads .i64 w b D0 OK∧D0≤bc
 | 14=>q=I4 0
 | 15=>∃ b bc,q=.slice b D0 bc∧Reads .i64 w b D0 OK∧D0≤bc
 | 16=>q=.slice va D0 vc
 | 17=>∃ b bc,q=.slice b D0 bc∧Reads .i64 w b D0 OQ∧D0≤bc
 | 18=>∃ b bc,q=.slice b D0 bc∧Reads .i64 w b D0 OK∧D0≤bc
 | 19=>q=.slice va D0 vc
 | _=>True
theorem Qlb {cb D0 qc kc vc:Nat}{qa ka va:Option Addr}{hh p:Int}{OQ OK:List Int}{i:Nat}{q:Value}{w w':World}(h:lhF cb D0 qc kc vc qa ka va hh p OQ OK i q w)(hb:Bw w w'):lhF cb D0 qc kc vc qa ka va hh p OQ OK i q w':=by
 unfold lhF at h ⊢
 split
 ·exact h
 ·exact h
 ·exact h
 ·exact h
 ·obtain⟨b,bc,h1,h2,h3⟩:=h;exact⟨b,bc,h1,h2.below hb,h3⟩
 ·obtain⟨b,bc,h1,h2,h3⟩:=h;exact⟨b,bc,h1,h2.below hb,h3⟩
 ·exact h
 ·obtain⟨b,bc,h1,h2,h3⟩:=h;exact⟨b,bc,h1,h2.below hb,h3⟩
 ·exact h
 ·exact h
 ·exact h
 ·exact h
 ·obtain⟨b,bc,h1,h2,h3⟩:=h;exact⟨b,bc,h1,h2.below hb,h3⟩
 ·obtain⟨b,bc,h1,h2,h3⟩:=h;exact⟨b,bc,h1,h2.below hb,h3⟩
 ·exact h
 ·obtain⟨b,bc,h1,h2,h3⟩:=h;exact⟨b,bc,h1,h2.below hb,h3⟩
 ·exact h
 ·obtain⟨b,bc,h1,h2,h3⟩:=h;exact⟨b,bc,h1,h2.below hb,h3⟩
 ·obtain⟨b,bc,h1,h2,h3⟩:=h;exact⟨b,bc,h1,h2.below hb,h3⟩
 ·exact h
 ·trivial
theorem Qg2 {id:Nat}{ops:Array Oper}{Q:Exit→Act→World→Prop}{a0:Act}{w0:World}(cb D0 qc kc vc:Nat)(qa ka va:Option Addr)(hh p:Int)(OQ OK:List Int)(S:World→Prop)(hlow:lowB ops=true)(hsz:ops.size=20)
  (oo:OpS ops 0 101 (.move (.tmp 10)) []∧OpS ops 1 102 (.fieldAddr 23 (.tmp 13) 1) []∧OpS ops 2 103 (.load 3 (.tmp 102)) [1]∧OpS ops 3 104 (.move (.tmp 3)) []∧OpS ops 4 105 (.call { callee:=.value (.func 95),args:=#[.tmp 101,.tmp 103,.tmp 104],argTypes:=#[34,3,3] }) [0,2,3]∧OpS ops 5 106 (.extract (.tmp 105) 0) [4]∧OpS ops 6 107 (.extract (.tmp 105) 1) [4]∧OpS ops 7 108 (.call { callee:=.value (.func 48),args:=#[.tmp 106,.tmp 107],argTypes:=#[34,35] }) [5,6]∧OpS ops 8 109 (.move (.tmp 11)) []∧OpS ops 9 110 (.fieldAddr 23 (.tmp 13) 1) []∧OpS ops 10 111 (.load 3 (.tmp 110)) [9]∧OpS ops 11 112 (.move (.tmp 3)) []∧OpS ops 12 113 (.call { callee:=.value (.func 95),args:=#[.tmp 109,.tmp 111,.tmp 112],argTypes:=#[34,3,3] }) [8,10,11]∧OpS ops 13 114 (.extract (.tmp 113) 0) [12]∧OpS ops 14 115 (.extract (.tmp 113) 1) [12]∧OpS ops 15 116 (.call { callee:=.value (.func 48),args:=#[.tmp 114,.tmp 115],argTypes:=#[34,35] }) [13,14]∧OpS ops 16 117 (.move (.tmp 12)) []∧OpS ops 17 10 (.assign (.tmp 108)) [0,7]∧OpS ops 18 11 (.assign (.tmp 116)) [8,15]∧OpS ops 19 12 (.assign (.tmp 117)) [16])
  (hS:S w0.drew)
  (x1:∀ w,(Instr.fieldAt 23 (Pt cb) 1).run Tryz.prog w=.ok (.pointer (some ⟨cb,1,none⟩)) w)
  (x2:∀ w,S w→(Instr.loadAt 3 (.pointer (some ⟨cb,1,none⟩))).run Tryz.prog w=.ok (I4 hh) w)
  (x4:∀ w,S w→Calls Tryz.prog 95 #[.slice qa D0 qc,I4 hh,I4 p] w fun e w'=>∃ b bc,e=.returned (.tuple #[.slice b D0 bc,I4 0])∧Reads .i64 w' b D0 OQ∧D0≤bc∧Bw w w'∧S w')
  (x7:True)
  (x9:∀ w,(Instr.fieldAt 23 (Pt cb) 1).run Tryz.prog w=.ok (.pointer (some ⟨cb,1,none⟩)) w)
  (x10:∀ w,S w→(Instr.loadAt 3 (.pointer (some ⟨cb,1,none⟩))).run Tryz.prog w=.ok (I4 hh) w)
  (x12:∀ w,S w→Calls Tryz.prog 95 #[.slice ka D0 kc,I4 hh,I4 p] w fun e w'=>∃ b bc,e=.returned (.tuple #[.slice b D0 bc,I4 0])∧Reads .i64 w' b D0 OK∧D0≤bc∧Bw w w'∧S w')
  (x15:True)
  (u3:a0.tmps.getD 3 undef=I4 p)
  (u10:a0.tmps.getD 10 undef=.slice qa D0 qc)
  (u11:a0.tmps.getD 11 undef=.slice ka D0 kc)
  (u12:a0.tmps.getD 12 undef=.slice va D0 vc)
  (u13:a0.tmps.getD 13 undef=Pt cb)
  (hs:118≤a0.tmps.size)
  (fin:∀ a w,a.tmps.size=a0.tmps.size→a.defers=a0.defers→(∀ s,(∀ i,i<20→lhD i≠some s)→a.tmps.getD s undef=a0.tmps.getD s undef)→S w→(∀ i d,i<20→lhD i=some d→lhF cb D0 qc kc vc qa ka va hh p OQ OK i (a.tmps.getD d undef) w)→Q .normal a w):(Code.region id ops true).wp Tryz.prog Q a0 w0:=by
 obtain⟨o0,o1,o2,o3,o4,o5,o6,o7,o8,o9,o10,o11,o12,o13,o14,o15,o16,o17,o18,o19⟩:=oo
 have r48:∀ args w,(callFunc 48 args).run Tryz.prog w=.ok (.enter 48 args) w:=eNo Tryz.func48 (by kernel_rfl) rfl
 have r95:∀ args w,(callFunc 95 args).run Tryz.prog w=.ok (.enter 95 args) w:=eNo Tryz.func95 (by kernel_rfl) rfl
 refine wRi (by kernel_rfl) hlow (Inv 20 lhD a0 (fun l a w=>S w∧Qbf 20 lhD a0 l a) (fun _=>lhF cb D0 qc kc vc qa ka va hh p OQ OK)) (Inv.start ⟨hS,QaB _ _ _⟩) ?_ ?_
 ·intro l i o a w ho hl hcl hdep hI
  have hi:i<20:=by rw[←hsz];exact (Array.getElem?_eq_some_iff.1 ho).1
  have ev:∀ (s:Nat),a.eval (.tmp s)=a.tmps.getD s undef:=fun _=>rfl
  have evf:∀ f,a.eval (.func f)=.func (.func f) #[] #[]:=fun _=>rfl
  have evc:∀ c:Value,a.eval (.const c)=c:=fun _=>rfl
  have inj:∀ d,lhD i=some d→∀ j d',j<20→lhD j=some d'→j≠i→d'≠d:=fun d hd j d' hj hd' hne e=>hne (Qf2 j hj i hi (by rw[hd',hd,e]) (by rw[hd'];simp))
  have kp:∀ s,(∀ i,i<20→lhD i≠some s)→a.tmps.getD s undef=a0.tmps.getD s undef:=hI.kept
  have hw:S w:=hI.world.1
  have k2:=hI.world.2
  have ex0:=hI.world.2
  have go:∀ {d:Nat}{v:Value}{w':World},lhD i=some d→Bw w w'→S w'→lhF cb D0 qc kc vc qa ka va hh p OQ OK i v w'→Inv 20 lhD a0 (fun l a w=>S w∧Qbf 20 lhD a0 l a) (fun _=>lhF cb D0 qc kc vc qa ka va hh p OQ OK) (fun j=>l j || j==i) (a.put (some d) v) w':=by
   intro d v w' hD hb hS' hF
   exact hI.put hi hD (Nat.lt_of_lt_of_le (QmQ i hi d hD) hs) (inj d hD) ⟨hS',k2.put hD (by rw[hI.size];exact Nat.lt_of_lt_of_le (QmQ i hi d hD) hs) hi⟩ hF (fun j u _ _ _ hf=>Qlb hf hb)
  rcases l20 (show i<20 by omega) with rfl|rfl|rfl|rfl|rfl|rfl|rfl|rfl|rfl|rfl|rfl|rfl|rfl|rfl|rfl|rfl|rfl|rfl|rfl|rfl
  ·obtain⟨e2,e3,e4,dp⟩:=o0.at_ ho hdep
   have U10:a.tmps.getD 10 undef=.slice qa D0 qc:=(k2 10 (fun j hj hjl e=>by
    obtain rfl:=Qf2 j hj 17 (by decide) (e.trans rfl) (by rw[e];simp)
    have y0:=hcl.dep' o17 hjl 0 (by decide)
    rw[hl] at y0
    cases y0)).trans u10
   exact wVa (v:=.slice qa D0 qc) (w':=w) ho e4 (by simp[execOp,e3,ev,evc,U10]) (by rw[e2];exact go rfl bR hw rfl)
  ·obtain⟨e2,e3,e4,dp⟩:=o1.at_ ho hdep
   have U13:=(kp 13 (by decide)).trans u13
   exact wVa (v:=.pointer (some ⟨cb,1,none⟩)) (w':=w) ho e4 (by simp[execOp,e3,ev,evc,U13,x1 w]) (by rw[e2];exact go rfl bR hw rfl)
  ·obtain⟨e2,e3,e4,dp⟩:=o2.at_ ho hdep
   have V1:tm a 102=_:=hI.vl dp 1 102 rfl rfl
   exact wVa (v:=I4 hh) (w':=w) ho e4 (by simp[execOp,e3,ev,evc,V1,x2 w hw]) (by rw[e2];exact go rfl bR hw rfl)
  ·obtain⟨e2,e3,e4,dp⟩:=o3.at_ ho hdep
   have U3:=(kp 3 (by decide)).trans u3
   exact wVa (v:=I4 p) (w':=w) ho e4 (by simp[execOp,e3,ev,evc,U3]) (by rw[e2];exact go rfl bR hw rfl)
  ·obtain⟨e2,e3,e4,dp⟩:=o4.at_ ho hdep
   have V0:tm a 101=_:=hI.vl dp 0 101 rfl rfl
   have V2:tm a 103=_:=hI.vl dp 2 103 rfl rfl
   have V3:tm a 104=_:=hI.vl dp 3 104 rfl rfl
   refine wCa (f:=95) (args:=#[.slice qa D0 qc,I4 hh,I4 p]) ho e4 (by simp[execOp,e3,resolve,invoke,Deferred.ofValue,r95,ev,evf,evc,V0,V2,V3]) ((x4 w hw).mono ?_)
   rintro e W' ⟨b,bc,rfl,hr6,hz6,hb6,hs6⟩
   refine⟨_,rfl,?_⟩
   rw[e2]
   exact go rfl hb6 hs6 ⟨b,bc,rfl,hr6,hz6⟩
  ·obtain⟨e2,e3,e4,dp⟩:=o5.at_ ho hdep
   obtain⟨b4,c4,V4,f4,z4⟩:=hI.vl dp 4 105 rfl rfl
   exact wVa (v:=.slice b4 D0 c4) (w':=w) ho e4 (by simp[execOp,e3,ev,evc,V4,Instr.extract]) (by rw[e2];exact go rfl bR hw ⟨_,_,rfl,f4,z4⟩)
  ·obtain⟨e2,e3,e4,dp⟩:=o6.at_ ho hdep
   obtain⟨b4,c4,V4,f4,z4⟩:=hI.vl dp 4 105 rfl rfl
   exact wVa (v:=I4 0) (w':=w) ho e4 (by simp[execOp,e3,ev,evc,V4,Instr.extract]) (by rw[e2];exact go rfl bR hw rfl)
  ·obtain⟨e2,e3,e4,dp⟩:=o7.at_ ho hdep
   obtain⟨b5,c5,V5,f5,z5⟩:=hI.vl dp 5 106 rfl rfl
   have V6:tm a 107=_:=hI.vl dp 6 107 rfl rfl
   refine wCa (f:=48) (args:=#[.slice b5 D0 c5,I4 0]) ho e4 (by simp[execOp,e3,resolve,invoke,Deferred.ofValue,r48,ev,evf,evc,V5,V6]) ((QaY _ _ _ w).mono ?_)
   rintro e W' ⟨rfl,hq6⟩
   refine⟨_,rfl,?_⟩
   rw[e2]
   exact go rfl (by rw[hq6];exact Below.refl _ _) (by rw[hq6];exact hw) ⟨_,_,rfl,(by rw[hq6];exact f5),z5⟩
  ·obtain⟨e2,e3,e4,dp⟩:=o8.at_ ho hdep
   have U11:a.tmps.getD 11 undef=.slice ka D0 kc:=(k2 11 (fun j hj hjl e=>by
    obtain rfl:=Qf2 j hj 18 (by decide) (e.trans rfl) (by rw[e];simp)
    have y0:=hcl.dep' o18 hjl 8 (by decide)
    rw[hl] at y0
    cases y0)).trans u11
   exact wVa (v:=.slice ka D0 kc) (w':=w) ho e4 (by simp[execOp,e3,ev,evc,U11]) (by rw[e2];exact go rfl bR hw rfl)
  ·obtain⟨e2,e3,e4,dp⟩:=o9.at_ ho hdep
   have U13:=(kp 13 (by decide)).trans u13
   exact wVa (v:=.pointer (some ⟨cb,1,none⟩)) (w':=w) ho e4 (by simp[execOp,e3,ev,evc,U13,x9 w]) (by rw[e2];exact go rfl bR hw rfl)
  ·obtain⟨e2,e3,e4,dp⟩:=o10.at_ ho hdep
   have V9:tm a 110=_:=hI.vl dp 9 110 rfl rfl
   exact wVa (v:=I4 hh) (w':=w) ho e4 (by simp[execOp,e3,ev,evc,V9,x10 w hw]) (by rw[e2];exact go rfl bR hw rfl)
  ·obtain⟨e2,e3,e4,dp⟩:=o11.at_ ho hdep
   have U3:=(kp 3 (by decide)).trans u3
   exact wVa (v:=I4 p) (w':=w) ho e4 (by simp[execOp,e3,ev,evc,U3]) (by rw[e2];exact go rfl bR hw rfl)
  ·obtain⟨e2,e3,e4,dp⟩:=o12.at_ ho hdep
   have V8:tm a 109=_:=hI.vl dp 8 109 rfl rfl
   have V10:tm a 111=_:=hI.vl dp 10 111 rfl rfl
   have V11:tm a 112=_:=hI.vl dp 11 112 rfl rfl
   refine wCa (f:=95) (args:=#[.slice ka D0 kc,I4 hh,I4 p]) ho e4 (by simp[execOp,e3,resolve,invoke,Deferred.ofValue,r95,ev,evf,evc,V8,V10,V11]) ((x12 w hw).mono ?_)
   rintro e W' ⟨b,bc,rfl,hr6,hz6,hb6,hs6⟩
   refine⟨_,rfl,?_⟩
   rw[e2]
   exact go rfl hb6 hs6 ⟨b,bc,rfl,hr6,hz6⟩
  ·obtain⟨e2,e3,e4,dp⟩:=o13.at_ ho hdep
   obtain⟨b12,c12,V12,f12,z12⟩:=hI.vl dp 12 113 rfl rfl
   exact wVa (v:=.slice b12 D0 c12) (w':=w) ho e4 (by simp[execOp,e3,ev,evc,V12,Instr.extract]) (by rw[e2];exact go rfl bR hw ⟨_,_,rfl,f12,z12⟩)
  ·obtain⟨e2,e3,e4,dp⟩:=o14.at_ ho hdep
   obtain⟨b12,c12,V12,f12,z12⟩:=hI.vl dp 12 113 rfl rfl
   exact wVa (v:=I4 0) (w':=w) ho e4 (by simp[execOp,e3,ev,evc,V12,Instr.extract]) (by rw[e2];exact go rfl bR hw rfl)
  ·obtain⟨e2,e3,e4,dp⟩:=o15.at_ ho hdep
   obtain⟨b13,c13,V13,f13,z13⟩:=hI.vl dp 13 114 rfl rfl
   have V14:tm a 115=_:=hI.vl dp 14 115 rfl rfl
   refine wCa (f:=48) (args:=#[.slice b13 D0 c13,I4 0]) ho e4 (by simp[execOp,e3,resolve,invoke,Deferred.ofValue,r48,ev,evf,evc,V13,V14]) ((QaY _ _ _ w).mono ?_)
   rintro e W' ⟨rfl,hq6⟩
   refine⟨_,rfl,?_⟩
   rw[e2]
   exact go rfl (by rw[hq6];exact Below.refl _ _) (by rw[hq6];exact hw) ⟨_,_,rfl,(by rw[hq6];exact f13),z13⟩
  ·obtain⟨e2,e3,e4,dp⟩:=o16.at_ ho hdep
   have U12:a.tmps.getD 12 undef=.slice va D0 vc:=(k2 12 (fun j hj hjl e=>by
    obtain rfl:=Qf2 j hj 19 (by decide) (e.trans rfl) (by rw[e];simp)
    have y0:=hcl.dep' o19 hjl 16 (by decide)
    rw[hl] at y0
    cases y0)).trans u12
   exact wVa (v:=.slice va D0 vc) (w':=w) ho e4 (by simp[execOp,e3,ev,evc,U12]) (by rw[e2];exact go rfl bR hw rfl)
  ·obtain⟨e2,e3,e4,dp⟩:=o17.at_ ho hdep
   have V0:tm a 101=_:=hI.vl dp 0 101 rfl rfl
   obtain⟨b7,c7,V7,f7,z7⟩:=hI.vl dp 7 108 rfl rfl
   exact wVa (v:=.slice b7 D0 c7) (w':=w) ho e4 (by simp[execOp,e3,ev,evc,V0,V7]) (by rw[e2];exact go rfl bR hw ⟨_,_,rfl,f7,z7⟩)
  ·obtain⟨e2,e3,e4,dp⟩:=o18.at_ ho hdep
   have V8:tm a 109=_:=hI.vl dp 8 109 rfl rfl
   obtain⟨b15,c15,V15,f15,z15⟩:=hI.vl dp 15 116 rfl rfl
   exact wVa (v:=.slice b15 D0 c15) (w':=w) ho e4 (by simp[execOp,e3,ev,evc,V8,V15]) (by rw[e2];exact go rfl bR hw ⟨_,_,rfl,f15,z15⟩)
  ·obtain⟨e2,e3,e4,dp⟩:=o19.at_ ho hdep
   have V16:tm a 117=_:=hI.vl dp 16 117 rfl rfl
   exact wVa (v:=.slice va D0 vc) (w':=w) ho e4 (by simp[execOp,e3,ev,evc,V16]) (by rw[e2];exact go rfl bR hw rfl)
 ·intro l a w hall hI
  have all:∀ j,j<20→l j=true:=fun j hj=>hall j (by rw[hsz];exact hj)
  exact fin a w hI.size hI.defers hI.kept hI.world.1 (fun i d hi hD=>hI.val i d hi hD (all i hi))
section
open Go.Sort hiding Below
structure RsI (w W1:World) (ws:List Int) (T N k j:Nat) (R S:Int) (v:Value) (Y:Nat→Nat→SL) (f:Nat→Nat→List Int) (GB:Nat) (s:Nat→SL) (W:World):Prop where
 bel:Bw W1 W
 cut:CutA w ws T N (4*k+j) W1.heap.size W
 ad:Blk 30 W (W1.heap.size+1) #[I4 R,I4 S,v]
 ta:TA W1.heap.size W v k Y f
 own:∀ g,v.ownBlock=some g→g≠GB
 gb:W1.heap.size≤GB
 lay:Blk 61 W GB #[(if 0<j then (s 0).v else nilS),(if 1<j then (s 1).v else nilS),(if 2<j then (s 2).v else nilS),(if 3<j then (s 3).v else nilS)]
 row:∀ i,i<j→TS W1.heap.size W (s i) (segA N ws (4*k+i))
theorem QlT {B:Nat}{w w':World}{v:Value}{n:Nat}{Y:Nat→Nat→SL}{f:Nat→Nat→List Int}{g:Nat}{cs:Array Value}(h:TA B w v n Y f)(o:Only g w w')(q:Blk 61 w g cs)(hg:∀ b,v.ownBlock=some b→b≠g):TA B w' v n Y f:=by
 have k62:Keeps 73 w w':=Keeps.of_only o q (by decide)
 refine⟨⟨h.own.1,?_⟩,fun i hi j hj=>(h.lay i hi j hj).step k62⟩
 rcases h.own.2 with h2|⟨b,cap,cur,hv,hb,hh,r⟩
 ·exact .inl h2
 ·refine .inr ⟨b,cap,cur,hv,hb,?_,r⟩
  exact (o.block b (Array.getElem?_eq_some_iff.1 hh).1 (fun e=>hg b (by rw[hv];rfl) (by simpa using e))).trans hh
theorem RsI.step {w W1:World}{ws:List Int}{T N k j:Nat}{R S:Int}{v:Value}{Y:Nat→Nat→SL}{f:Nat→Nat→List Int}{GB:Nat}{s:Nat→SL}{W X:World}(h:RsI w W1 ws T N k j R S v Y f GB s W)(hj:j<4)(sj:SL)(ts:TS W.heap.size X sj (segA N ws (4*k+j)))(hC:CutA w ws T N (4*k+j+1) W1.heap.size X)(on:Only W1.heap.size W X)(k24:Keeps 30 W X)(k52:Keeps 61 W X)(k62:Keeps 73 W X) :
  X.cell? ⟨GB,j,none⟩=some nilS∧X.frozen? ⟨GB,j,none⟩=false∧Hid (RsI w W1 ws T N k (j+1) R S v Y f GB (upd s j sj) (X.setCell ⟨GB,j,none⟩ (sj.w))):=by
 have qG:=k52.blk h.lay
 have qA:=k24.blk h.ad
 have tA:TA W1.heap.size X v k Y f:=⟨k52.own h.ta.own,fun i hi j hj=>(h.ta.lay i hi j hj).step k62⟩
 have bX:=Only.below h.bel nL h.bel.size on
 have onG:=Only.set GB j X (sj.w)
 have g24:Keeps 30 X (X.setCell ⟨GB,j,none⟩ (sj.w)):=Keeps.of_only onG qG (by decide)
 have g75:Keeps 113 X (X.setCell ⟨GB,j,none⟩ (sj.w)):=Keeps.of_only onG qG (by decide)
 have g62:Keeps 73 X (X.setCell ⟨GB,j,none⟩ (sj.w)):=Keeps.of_only onG qG (by decide)
 have rows:∀ i,i<j+1→TS W1.heap.size (X.setCell ⟨GB,j,none⟩ (sj.w)) (upd s j sj i) (segA N ws (4*k+i)):=fun i hi=>by
  by_cases e:i=j
  ·subst e
   rw[Qaz]
   exact (ts.le h.bel.size).step g62
  ·rw[Qal s j sj e]
   exact ((h.row i (by omega)).step k62).step g62
 refine⟨?_,qG.open_ j,Only.below bX h.gb bX.size onG,by rw[←Nat.add_assoc];exact hC.keeps g75,g24.blk qA,QlT tA onG qG h.own,h.own,h.gb,?_,rows⟩
 ·refine qG.cell j ?_
  rcases l4 (show j<4 by omega) with rfl|rfl|rfl|rfl<;>rfl
 ·rcases l4 (show j<4 by omega) with rfl|rfl|rfl|rfl
  ·exact Qa4 qG 0 _ rfl
  ·exact Qa4 qG 1 _ rfl
  ·exact Qa4 qG 2 _ rfl
  ·exact Qa4 qG 3 _ rfl
theorem RsI.full {w W1:World}{ws:List Int}{T N k:Nat}{R S:Int}{v:Value}{Y:Nat→Nat→SL}{f:Nat→Nat→List Int}{GB:Nat}{s:Nat→SL}{s0 s1 s2 s3:SL}{W:World}(h:RsI w W1 ws T N k 4 R S v Y f GB (upd (upd (upd (upd s 0 s0) 1 s1) 2 s2) 3 s3) W) :
  Blk 61 W GB #[s0.w,s1.w,s2.w,s3.w]∧∀ j,j<4→TS W1.heap.size W (four s0 s1 s2 s3 j) (segA N ws (4*k+j)):=by
 refine⟨h.lay,fun j hj=>?_⟩
 have:=h.row j hj
 rcases l4 (show j<4 by omega) with rfl|rfl|rfl|rfl
 ·exact this
 ·exact this
 ·exact this
 ·exact this
theorem QlS {B:Nat}{w:World}{v:Value}{n:Nat}{Y:Nat→Nat→SL}{f:Nat→Nat→List Int}(h:TA B w v n Y f):∃ s:SL,v=s.w:=by
 rcases h.own.2 with⟨e,_⟩|⟨g,cap,cur,e,_⟩
 ·exact⟨⟨none,0,0⟩,e⟩
 ·exact⟨⟨_,_,_⟩,e⟩
theorem Qgy (R S d h v u x t n:Int)(x0:Addr)(ml N T c:Nat)(ws:List Int)(w:World)(hr:Reads .i8 w (some x0) T ws)(hc:T≤c)(hT:T=4*ml*N)(hml:ml≤1000)(hl:T≤100000)(hN:N≤1000)(eN:R*d=(N:Int))(q:Int)(hq:(ml:Int)*4=q)(hqT:q*(N:Int)=(T:Int))
  (k35:∀ w,Calls Tryz.prog 83 #[I4 R,I4 S,.agg #[I4 d,I4 h,I4 (ml:Int),I4 v,I4 u,I4 x,I4 t,I4 n]] w fun e w'=>e=.returned (.bool true)∧Bw w w') :
  Calls Tryz.prog 42 #[I4 R,I4 S,.agg #[I4 d,I4 h,I4 (ml:Int),I4 v,I4 u,I4 x,I4 t,I4 n],.slice (some x0) T c] w fun e w'=>∃ (L:SL) (Y:Nat→Nat→SL),e=.returned (.tuple #[.agg #[I4 R,I4 S,L.w],I4 0])∧NewA w.heap.size w' L Y (Qdc ml N ws)∧Bw w w':=by
 have hb:=bNw (bNw (bS w) (.cells #[I4 d,I4 h,I4 (ml:Int),I4 v,I4 u,I4 x,I4 t,I4 n] 23)) (.cells #[I4 0,I4 0,nilS] 30)
 have qc:Blk 23 ((w.alloc (.cells #[I4 d,I4 h,I4 (ml:Int),I4 v,I4 u,I4 x,I4 t,I4 n] 23)).alloc (.cells #[I4 0,I4 0,nilS] 30)) w.heap.size #[I4 d,I4 h,I4 (ml:Int),I4 v,I4 u,I4 x,I4 t,I4 n]:=(Blk.new 23 w _).kept (bNw bR _)
 have qr:Blk 30 ((w.alloc (.cells #[I4 d,I4 h,I4 (ml:Int),I4 v,I4 u,I4 x,I4 t,I4 n] 23)).alloc (.cells #[I4 0,I4 0,nilS] 30)) (w.heap.size+1) #[I4 0,I4 0,nilS]:=Blk.new_at 30 (w.alloc _) _ _ (by simp)
 obtain⟨c0,c1,c2,c3,c4,c5,c6,c7⟩:=qc.cfg
 have q0:(0:Int)≤q:=by omega
 have q1:q≤4000:=by omega
 have start:∀ W1:World,CutA w ws T N (4*0+0) W1.heap.size ((W1.alloc (.cells #[.slice (some x0) T c] 113)).alloc (.cells #[I4 R,I4 S,nilS] 30)):=fun W1 =>
  ⟨x0,c,by rw[Nat.zero_mul,Nat.sub_zero];exact (Blk.new 113 W1 _).kept (bNw bR _),by rw[Nat.zero_mul,Nat.sub_zero,List.drop_zero];exact hr,by omega⟩
 have HS:=hdn start
 have HT:=hdn hT
 clear hr hT start
 go_enter Tryz.func42,Tryz.ntmps42
 go_wp2_with (first|(go_at_call 83;refine (k35 _).mono ?_;rintro e W1 ⟨rfl,h1⟩;replace qr:=qr.kept h1;replace qc:=qc.kept h1;replace hb:=bTn hb h1;clear h1 c0 c1 c2 c3 c4 c5 c6 c7;obtain⟨c0,c1,c2,c3,c4,c5,c6,c7⟩:=qc.cfg;obtain⟨z0,z1,z2⟩:=qr.c3;obtain⟨o0,o1,o2⟩:=qr.o3))
 have cut:=HS.out W1
 have qA:Blk 30 ((W1.alloc (.cells #[.slice (some x0) T c] 113)).alloc (.cells #[I4 R,I4 S,nilS] 30)) (W1.heap.size+1) #[I4 R,I4 S,nilS]:=Blk.new_at 30 (W1.alloc _) _ _ (by simp)
 have bA:Bw W1 ((W1.alloc (.cells #[.slice (some x0) T c] 113)).alloc (.cells #[I4 R,I4 S,nilS] 30)):=bNw (bNw bR _) _
 obtain⟨A,eA⟩:∃ A,(W1.alloc (.cells #[.slice (some x0) T c] 113)).alloc (.cells #[I4 R,I4 S,nilS] 30)=A:=⟨_,rfl⟩
 rw[eA] at cut qA bA ⊢
 have HB:=hdn (And.intro hb (And.intro qr (And.intro qc (And.intro cut (And.intro qA bA)))))
 have s1:=hb.size
 clear hb qr qc cut qA bA c0 c1 c2 c3 c4 c5 c6 c7 z0 z1 z2 o0 o1 o2 k35 eA eN hq hqT
 go_loopw [13,14] (fun i _ wr=>∃ k:Nat,k≤ml∧i=I4 k∧Bw W1 wr∧CutA w ws T N (4*k+0) W1.heap.size wr∧∃ (La:SL) (Y:Nat→Nat→SL),Blk 30 wr (W1.heap.size+1) #[I4 R,I4 S,La.w]∧TA W1.heap.size wr (La.w) k Y (fun i j=>segA N ws (4*i+j))) (fun i _ _=>ml-(intOf i).toNat)
 case atStart=>exact⟨0,Nat.zero_le _,rfl,HB.out.2.2.2.2.2,HB.out.2.2.2.1,⟨none,0,0⟩,fun _ _=>SL.nought,HB.out.2.2.2.2.1,TA.nil _ _ _ _⟩
 case round =>
  obtain⟨k,hk,rfl,hbr,cut,La,Y,qA,tA⟩:=hrel
  obtain⟨WR,eWR⟩:∃ WR,WR=wr:=⟨_,rfl⟩
  subst eWR
  obtain⟨c0,c1,c2,c3,c4,c5,c6,c7⟩:=(HB.out.2.2.1.kept hbr).cfg
  by_cases hlt:k<ml
  ·have hlt':(k:Int)<(ml:Int):=by omega
   have b5:=bNw (Below.refl WR.heap.size WR) (.cells #[nilS,nilS,nilS,nilS] 61)
   have st:RsI w W1 ws T N k 0 R S (La.w) Y (fun i j=>segA N ws (4*i+j)) WR.heap.size (fun _=>SL.nought) (WR.alloc (.cells #[nilS,nilS,nilS,nilS] 61)) :=
    ⟨bTn hbr b5,cut.below b5,qA.kept b5,tA.below b5,(fun g hg=>by have:=(tA.own.lt g hg).2;omega),hbr.size,Blk.new 61 WR _,fun i hi=>absurd hi (Nat.not_lt_zero _)⟩
   have HQ:Hid (∀ j,j<4→(4*k+j)*N+N≤T):=fun j hj=>by
    have:=Nat.mul_le_mul_right N (show 4*k+j+1≤4*ml by omega)
    rw[Nat.add_mul (4*k+j),Nat.one_mul] at this
    rw[HT.out]
    exact this
   have BW:Hid (Bw w W1):=HB.out.1
   have nx:=fun (j:Nat) (hj:j<4) (s:Nat→SL) (W:World) (g:RsI w W1 ws T N k j R S (La.w) Y (fun i j=>segA N ws (4*i+j)) WR.heap.size s W)=>Qk1 w ws T N (4*k+j) W1.heap.size W g.cut (HQ.out j hj) hl (bTn BW.out g.bel)
   have HST:=hdn st
   have NX:=hdn nx
   clear st nx b5 cut qA tA hbr
   go_wp2_with (first
    | (go_at_call 81;refine (NX.out 0 (by decide) _ _ HST.out).mono ?_;rintro e X0 ⟨s0,rfl,ts0,hC0,on0,k24,k52,k62⟩;obtain⟨g1,g2,st0⟩:=HST.out.step (by decide) s0 ts0 hC0 on0 k24 k52 k62;clear ts0 hC0 on0 k24 k52 k62 HST)
    | (go_at_call 81;refine (NX.out 1 (by decide) _ _ st0.out).mono ?_;rintro e X1 ⟨s1,rfl,ts1,hC1,on1,k24,k52,k62⟩;obtain⟨g3,g4,st1⟩:=st0.out.step (by decide) s1 ts1 hC1 on1 k24 k52 k62;clear ts1 hC1 on1 k24 k52 k62 st0 g1 g2)
    | (go_at_call 81;refine (NX.out 2 (by decide) _ _ st1.out).mono ?_;rintro e X2 ⟨s2,rfl,ts2,hC2,on2,k24,k52,k62⟩;obtain⟨g1,g2,st2⟩:=st1.out.step (by decide) s2 ts2 hC2 on2 k24 k52 k62;clear ts2 hC2 on2 k24 k52 k62 st1 g3 g4)
    | (go_at_call 81;refine (NX.out 3 (by decide) _ _ st2.out).mono ?_;rintro e X3 ⟨s3,rfl,ts3,hC3,on3,k24,k52,k62⟩;obtain⟨g3,g4,st3⟩:=st2.out.step (by decide) s3 ts3 hC3 on3 k24 k52 k62;obtain⟨V3,eV3⟩:∃ V,X3.setCell ⟨WR.heap.size,3,none⟩ (s3.w)=V:=⟨_,rfl⟩;rw[eV3] at st3;obtain⟨fl,rw4⟩:=RsI.full st3.out;obtain⟨d0,d1,d2⟩:=st3.out.ad.c3;obtain⟨y0,y1,y2,y3⟩:=fl.c4;have b6:=bNw (Below.refl V3.heap.size V3) (.cells #[s0.w,s1.w,s2.w,s3.w] 61);have qz:Blk 61 (V3.alloc (.cells #[s0.w,s1.w,s2.w,s3.w] 61)) V3.heap.size #[s0.w,s1.w,s2.w,s3.w]:=Blk.new 61 V3 _;have qd:=st3.out.ad.kept b6;obtain⟨dd0,dd1,dd2⟩:=qd.c3;clear ts3 hC3 on3 k24 k52 k62 st2 g1 g2 fl)
    | (at_builtin;refine Qfb rfl (.tmp 64) (.tmp 66) rfl W1.heap.size k _ Y (fun i j=>segA N ws (4*i+j)) (four s0 s1 s2 s3) V3.heap.size 1 rfl rfl (st3.out.ta.below b6) qz (fun j hj=>(rw4 j hj).below b6) (by omega) (Nat.le_trans st3.out.bel.size b6.size) ?_;intro v6 w6 hb6 k24 k75 ta6;obtain⟨L6,rfl⟩:=QlS ta6;have qd6:=k24.blk qd;have z2:=qd6.cell 2 rfl;have o2:=qd6.open_ 2;have hbl:=((bTn st3.out.bel b6).trans hb6);have cut6:=((st3.out.cut.below b6).keeps k75);clear dd0 dd1 dd2 d0 d1 d2 y0 y1 y2 y3 rw4 qz qd b6 hb6 k24 k75 st3 g3 g4 eV3))
   have on6:=Only.set (W1.heap.size+1) 2 w6 (L6.w)
   have qA6:Blk 30 (w6.setCell ⟨W1.heap.size+1,2,none⟩ (L6.w)) (W1.heap.size+1) #[I4 R,I4 S,L6.w]:=Qa4 qd6 2 _ rfl
   have ta7:TA W1.heap.size (w6.setCell ⟨W1.heap.size+1,2,none⟩ (L6.w)) (L6.w) (k+1) (upd Y k (four s0 s1 s2 s3)) (fun i j=>segA N ws (4*i+j)):=⟨(Keeps.of_only on6 qd6 (by decide)).own ta6.own,fun i hi j hj=>(ta6.lay i hi j hj).step (Keeps.of_only on6 qd6 (by decide))⟩
   have cut7:=cut6.keeps (Keeps.of_only on6 qd6 (by decide))
   have bel7:=Only.below hbl (Nat.le_succ _) hbl.size on6
   go_roundw
   case rel=>exact⟨k+1,by omega,by go_num,bel7,cut7,L6,_,qA6,ta7⟩
   case measure=>simp[intOf];omega
  ·have e:k=ml:=by omega
   subst e
   have nlt:¬(k:Int)<(k:Int):=by omega
   obtain⟨a0,a1,a2⟩:=qA.c3
   obtain⟨L',eL,nw⟩:=TA.new (m:=Qdc k N ws) tA
   have eL':La=L':=SL.v_inj eL
   subst eL'
   have qr:=HB.out.2.1.kept hbr
   have hb:=bTn HB.out.1 hbr
   obtain⟨z0,z1,z2⟩:=qr.c3
   obtain⟨o0,o1,o2⟩:=qr.o3
   have lt2:=HB.out.2.1.lt
   clear cut hbr tA eL
   go_wp2
   obtain⟨W6,eW,q6,only,hz⟩:=set3 qr (I4 R) (I4 S) (La.w)
   rw[eW]
   refine bodyPost_ret (v:=.tuple #[.agg #[I4 R,I4 S,La.w],I4 0]) ?_ rfl ⟨La,rfl,⟨_,(nw.only only lt2).le (by omega)⟩,Only.below hb (Nat.le_succ _) hb.size only⟩
   obtain⟨y0,y1,y2⟩:=q6.c3
   simp[results,Tryz.results42,go_sem,y0,y1,y2]
end
end Go.Proofs.YthliomlmhfjhnaaGreat
