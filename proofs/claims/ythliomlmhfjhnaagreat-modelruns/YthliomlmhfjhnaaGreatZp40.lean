/- Texts put together. -/
import Derived.Test.YthliomlmhfjhnaaGreatZp39
import Derived.Test.YthliomlmhfjhnaaGreatZp38
namespace Go.Proofs.YthliomlmhfjhnaaGreat
set_option maxRecDepth 20000
set_option maxHeartbeats 16000000
open Go.ChangeShapes Go.WideShapes Go.ChangeAt Go.RowKit
set_option linter.unusedVariables false
set_option linter.unusedSimpArgs false
theorem Qaj {w:World}{b:Nat}{d h l v u x t n:Int}{E L N O:SL}(q:Blk 27 w b #[I4 d,I4 h,I4 l,I4 v,I4 u,I4 x,I4 t,I4 n,E.w,L.w,N.w,O.w]):(Instr.loadAt 27 (Pt b)).run Tryz.prog w=.ok (.agg #[I4 d,I4 h,I4 l,I4 v,I4 u,I4 x,I4 t,I4 n,E.w,L.w,N.w,O.w]) w:=by
 obtain⟨c0,c1,c2,c3,c4,c5,c6,c7,c8,c9,c10,c11⟩:=q.c12
 go_simp
theorem rL3 {w:World}{b:Nat}{r s:Int}{La:SL}(q:Blk 30 w b #[I4 r,I4 s,La.w]):(Instr.loadAt 30 (Pt b)).run Tryz.prog w=.ok (.agg #[I4 r,I4 s,La.w]) w:=by
 obtain⟨c0,c1,c2⟩:=q.c3
 go_simp
theorem Qcj {w:World}{b:Nat}{x0 x1 x2 x3 x4 x5 x6 x7 x8 x9 x10 x11:Value}(q:Blk 27 w b #[x0,x1,x2,x3,x4,x5,x6,x7,x8,x9,x10,x11])(d h l v u x t n:Int)(E L N O:SL):∃ w',(Instr.storeAt 27 (Pt b) (.agg #[I4 d,I4 h,I4 l,I4 v,I4 u,I4 x,I4 t,I4 n,E.w,L.w,N.w,O.w])).run Tryz.prog w=.ok () w'∧Blk 27 w' b #[I4 d,I4 h,I4 l,I4 v,I4 u,I4 x,I4 t,I4 n,E.w,L.w,N.w,O.w]∧Only b w w':=by
 obtain⟨c0,c1,c2,c3,c4,c5,c6,c7,c8,c9,c10,c11⟩:=q.c12
 obtain⟨o0,o1,o2,o3,o4,o5,o6,o7,o8,o9,o10,o11⟩:=q.o12
 obtain⟨W2,eW,q2,only,hz⟩:=Qe8 q (I4 d) (I4 h) (I4 l) (I4 v) (I4 u) (I4 x) (I4 t) (I4 n) (E.w) (L.w) (N.w) (O.w)
 exact⟨W2,by rw[←eW];go_simp,q2,only⟩
theorem QdL {w:World}{b:Nat}{x0 x1 x2:Value}(q:Blk 30 w b #[x0,x1,x2])(r s:Int)(La:SL):∃ w',(Instr.storeAt 30 (Pt b) (.agg #[I4 r,I4 s,La.w])).run Tryz.prog w=.ok () w'∧Blk 30 w' b #[I4 r,I4 s,La.w]∧Only b w w':=by
 obtain⟨c0,c1,c2⟩:=q.c3
 obtain⟨o0,o1,o2⟩:=q.o3
 obtain⟨W2,eW,q2,only,hz⟩:=set3 q (I4 r) (I4 s) (La.w)
 exact⟨W2,by rw[←eW];go_simp,q2,only⟩
theorem QdJ {w:World}{b:Nat}{d h l v u x t n:Int}{E L N O:SL}(q:Blk 27 w b #[I4 d,I4 h,I4 l,I4 v,I4 u,I4 x,I4 t,I4 n,E.w,L.w,N.w,O.w]):(Instr.storeAt 27 (Pt b) (.agg #[I4 d,I4 h,I4 l,I4 v,I4 u,I4 x,I4 t,I4 n,E.w,L.w,N.w,O.w])).run Tryz.prog w=.ok () w:=by
 obtain⟨c0,c1,c2,c3,c4,c5,c6,c7,c8,c9,c10,c11⟩:=q.c12
 obtain⟨o0,o1,o2,o3,o4,o5,o6,o7,o8,o9,o10,o11⟩:=q.o12
 obtain⟨W2,eW,q2,only,hz⟩:=Qe8 q (I4 d) (I4 h) (I4 l) (I4 v) (I4 u) (I4 x) (I4 t) (I4 n) (E.w) (L.w) (N.w) (O.w)
 have e:W2=w:=by
  rw[←eW,sSa c0,sSa c1,sSa c2,sSa c3,sSa c4,sSa c5,sSa c6,sSa c7,sSa c8,sSa c9,sSa c10,sSa c11]
 subst e
 conv=>rhs;rw[←eW]
 go_simp
def cyD (i:Nat):Option Nat:=match i with|0=>some 6|1=>some 7|2=>some 8|3=>some 9|_=>none
theorem Qnt:∀ i,i<5→∀ j,j<5→cyD i=cyD j→cyD i≠none→i=j:=by decide
theorem Qoh:∀ i,i<5→∀ d,cyD i=some d→d<22:=by
 intro i hi d h
 have:∀ i,i<5→(cyD i).all (fun d=>decide (d<22))=true:=by decide
 have:=this i hi
 rw[h] at this
 simpa using this
def cyF (M:Md)(E L N O:SL)(c:Int)(j:Nat)(q:Value):Prop:=match j with
 | 0=>q=M.ag E L N O
 | 1=>q=M.ag E L N O
 | 2=>q=I4 c
 | 3=>q=M.ag E L N O
 | _=>True
theorem Qe2 {id:Nat}{ops:Array Oper}{Q:Exit→Act→World→Prop}{a0:Act}{w0:World}(M:Md)(E L N O:SL)(c:Int)(B:Nat)(hB:Blk 27 w0 B (M.mc E L N O))
  (hlow:lowB ops=true) (hsz:ops.size=5)
  (oo:OpS ops 0 6 (.load 27 (.tmp 2)) []∧OpS ops 1 7 (.load 27 (.tmp 2)) []∧OpS ops 2 8 (.call { callee:=.value (.func 47),args:=#[.tmp 7],argTypes:=#[27] }) [1]∧OpS ops 3 9 (.call { callee:=.value (.func 46),args:=#[.tmp 6,.tmp 8],argTypes:=#[27,35] }) [0,2]∧OpIn ops 4 none (.store 27 (.tmp 2) (.tmp 9)) none [3])
  (ub:a0.tmps.getD 2 undef=Pt B)
  (x2:∀ w,Bw w0 w→Calls Tryz.prog 47 #[M.ag E L N O] w fun e w'=>e=.returned (I4 c)∧Bw w w')
  (x3:∀ w,Calls Tryz.prog 46 #[M.ag E L N O,I4 c] w fun e w'=>e=.returned (M.ag E L N O)∧Bw w w')
  (hs:22≤a0.tmps.size)
  (fin:∀ a w,a.tmps.size=a0.tmps.size→a.defers=a0.defers→(∀ s,(∀ i,i<5→cyD i≠some s)→a.tmps.getD s undef=a0.tmps.getD s undef)→Bw w0 w→Q .normal a w):(Code.region id ops true).wp Tryz.prog Q a0 w0:=by
 obtain⟨o0,o1,o2,o3,o4⟩:=oo
 have r47:∀ args w,(callFunc 47 args).run Tryz.prog w=.ok (.enter 47 args) w:=eNo Tryz.func47 (by kernel_rfl) rfl
 have r46:∀ args w,(callFunc 46 args).run Tryz.prog w=.ok (.enter 46 args) w:=eNo Tryz.func46 (by kernel_rfl) rfl
 refine wRi (by kernel_rfl) hlow (Inv 5 cyD a0 (fun _ _ w=>Bw w0 w) (fun _ j q _=>cyF M E L N O c j q)) (Inv.start bR.drew) ?_ ?_
 ·intro k i o a w ho hl hcl hdep hI
  have hi:i<5:=by rw[←hsz];exact (Array.getElem?_eq_some_iff.1 ho).1
  have ev:∀ (s:Nat),a.eval (.tmp s)=a.tmps.getD s undef:=fun _=>rfl
  have evf:∀ f,a.eval (.func f)=.func (.func f) #[] #[]:=fun _=>rfl
  have inj:∀ d,cyD i=some d→∀ j d',j<5→cyD j=some d'→j≠i→d'≠d:=fun d hd j d' hj hd' hne e=>hne (Qnt j hj i hi (by rw[hd',hd,e]) (by rw[hd'];simp))
  have kp:∀ s,(∀ i,i<5→cyD i≠some s)→a.tmps.getD s undef=a0.tmps.getD s undef:=hI.kept
  have hw:Bw w0 w:=hI.world
  have U:a.tmps.getD 2 undef=Pt B:=(kp 2 (by decide)).trans ub
  have go:∀ {d:Nat}{v:Value}{w':World},cyD i=some d→Bw w w'→cyF M E L N O c i v→Inv 5 cyD a0 (fun _ _ w=>Bw w0 w) (fun _ j q _=>cyF M E L N O c j q) (fun j=>k j || j==i) (a.put (some d) v) w':=by
   intro d v w' hD hb hF
   exact hI.put hi hD (Nat.lt_of_lt_of_le (Qoh i hi d hD) hs) (inj d hD) (bTn hw hb) hF (fun j u _ _ _ hf=>hf)
  rcases l5 (show i<5 by omega) with rfl|rfl|rfl|rfl|rfl
  ·obtain⟨e2,e3,e4,dp⟩:=o0.at_ ho hdep
   exact wVa (v:=M.ag E L N O) (w':=w) ho e4 (by simp[execOp,e3,ev,U,Qaj (hB.kept hw)]) (by rw[e2];exact go rfl bR rfl)
  ·obtain⟨e2,e3,e4,dp⟩:=o1.at_ ho hdep
   exact wVa (v:=M.ag E L N O) (w':=w) ho e4 (by simp[execOp,e3,ev,U,Qaj (hB.kept hw)]) (by rw[e2];exact go rfl bR rfl)
  ·obtain⟨e2,e3,e4,dp⟩:=o2.at_ ho hdep
   have V1:tm a 7=_:=hI.vl dp 1 7 rfl rfl
   refine wCa (f:=47) (args:=#[M.ag E L N O]) ho e4 (by simp[execOp,e3,resolve,invoke,Deferred.ofValue,r47,ev,evf,V1]) ((x2 w hw).mono ?_)
   rintro e W' ⟨rfl,hb⟩
   refine⟨_,rfl,?_⟩
   rw[e2]
   exact go rfl hb rfl
  ·obtain⟨e2,e3,e4,dp⟩:=o3.at_ ho hdep
   have V0:tm a 6=_:=hI.vl dp 0 6 rfl rfl
   have V2:tm a 8=_:=hI.vl dp 2 8 rfl rfl
   refine wCa (f:=46) (args:=#[M.ag E L N O,I4 c]) ho e4 (by simp[execOp,e3,resolve,invoke,Deferred.ofValue,r46,ev,evf,V0,V2]) ((x3 w).mono ?_)
   rintro e W' ⟨rfl,hb⟩
   refine⟨_,rfl,?_⟩
   rw[e2]
   exact go rfl hb rfl
  ·obtain⟨e2,e3,e4,dp⟩:=o4.at_ ho hdep
   have V3:tm a 9=_:=hI.vl dp 3 9 rfl rfl
   refine wSk (w':=w) ho e4 (by simp[execOp,e3,ev,U,V3,QdJ (hB.kept hw)]) ?_
   rw[e2]
   exact hI.none_ rfl hw (fun j u _ _ _ hf=>hf)
 ·intro k a w hall hI
  have all:∀ j,j<5→k j=true:=fun j hj=>hall j (by rw[hsz];exact hj)
  exact fin a w hI.size hI.defers hI.kept hI.world
def cnD (i:Nat):Option Nat:=match i with|0=>some 6|1=>some 7|2=>some 8|3=>some 9|_=>none
theorem Qnw:∀ i,i<5→∀ j,j<5→cnD i=cnD j→cnD i≠none→i=j:=by decide
theorem Qoi:∀ i,i<5→∀ d,cnD i=some d→d<22:=by
 intro i hi d h
 have:∀ i,i<5→(cnD i).all (fun d=>decide (d<22))=true:=by decide
 have:=this i hi
 rw[h] at this
 simpa using this
def cnF (M:Md)(E L N O:SL)(c:Int)(j:Nat)(q:Value):Prop:=match j with
 | 0=>q=M.ag E L N O
 | 1=>q=M.ag E L N O
 | 2=>q=I4 c
 | 3=>False
 | _=>True
theorem Qlo {id:Nat}{ops:Array Oper}{Q:Exit→Act→World→Prop}{a0:Act}{w0:World}(M:Md)(E L N O:SL)(c:Int)(B:Nat)(ch:List PanicEntry)(hB:Blk 27 w0 B (M.mc E L N O))
  (hlow:lowB ops=true) (hsz:ops.size=5)
  (oo:OpS ops 0 6 (.load 27 (.tmp 2)) []∧OpS ops 1 7 (.load 27 (.tmp 2)) []∧OpS ops 2 8 (.call { callee:=.value (.func 47),args:=#[.tmp 7],argTypes:=#[27] }) [1]∧OpS ops 3 9 (.call { callee:=.value (.func 46),args:=#[.tmp 6,.tmp 8],argTypes:=#[27,35] }) [0,2]∧OpIn ops 4 none (.store 27 (.tmp 2) (.tmp 9)) none [3])
  (ub:a0.tmps.getD 2 undef=Pt B)
  (x2:∀ w,Bw w0 w→Calls Tryz.prog 47 #[M.ag E L N O] w fun e w'=>e=.returned (I4 c)∧Bw w w')
  (x3:∀ w,Calls Tryz.prog 46 #[M.ag E L N O,I4 c] w fun e w'=>e=.panicked ch∧Bw w w')
  (hs:22≤a0.tmps.size)
  (pan:∀ a w,a.defers=a0.defers→(∀ s,(∀ i,i<5→cnD i≠some s)→a.tmps.getD s undef=a0.tmps.getD s undef)→Bw w0 w→Q (.panic ch) a w):(Code.region id ops true).wp Tryz.prog Q a0 w0:=by
 obtain⟨o0,o1,o2,o3,o4⟩:=oo
 have r47:∀ args w,(callFunc 47 args).run Tryz.prog w=.ok (.enter 47 args) w:=eNo Tryz.func47 (by kernel_rfl) rfl
 have r46:∀ args w,(callFunc 46 args).run Tryz.prog w=.ok (.enter 46 args) w:=eNo Tryz.func46 (by kernel_rfl) rfl
 refine wRi (by kernel_rfl) hlow (Inv 5 cnD a0 (fun _ _ w=>Bw w0 w) (fun _ j q _=>cnF M E L N O c j q)) (Inv.start bR.drew) ?_ ?_
 ·intro k i o a w ho hl hcl hdep hI
  have hi:i<5:=by rw[←hsz];exact (Array.getElem?_eq_some_iff.1 ho).1
  have ev:∀ (s:Nat),a.eval (.tmp s)=a.tmps.getD s undef:=fun _=>rfl
  have evf:∀ f,a.eval (.func f)=.func (.func f) #[] #[]:=fun _=>rfl
  have inj:∀ d,cnD i=some d→∀ j d',j<5→cnD j=some d'→j≠i→d'≠d:=fun d hd j d' hj hd' hne e=>hne (Qnw j hj i hi (by rw[hd',hd,e]) (by rw[hd'];simp))
  have kp:∀ s,(∀ i,i<5→cnD i≠some s)→a.tmps.getD s undef=a0.tmps.getD s undef:=hI.kept
  have hw:Bw w0 w:=hI.world
  have U:a.tmps.getD 2 undef=Pt B:=(kp 2 (by decide)).trans ub
  have go:∀ {d:Nat}{v:Value}{w':World},cnD i=some d→Bw w w'→cnF M E L N O c i v→Inv 5 cnD a0 (fun _ _ w=>Bw w0 w) (fun _ j q _=>cnF M E L N O c j q) (fun j=>k j || j==i) (a.put (some d) v) w':=by
   intro d v w' hD hb hF
   exact hI.put hi hD (Nat.lt_of_lt_of_le (Qoi i hi d hD) hs) (inj d hD) (bTn hw hb) hF (fun j u _ _ _ hf=>hf)
  rcases l5 (show i<5 by omega) with rfl|rfl|rfl|rfl|rfl
  ·obtain⟨e2,e3,e4,dp⟩:=o0.at_ ho hdep
   exact wVa (v:=M.ag E L N O) (w':=w) ho e4 (by simp[execOp,e3,ev,U,Qaj (hB.kept hw)]) (by rw[e2];exact go rfl bR rfl)
  ·obtain⟨e2,e3,e4,dp⟩:=o1.at_ ho hdep
   exact wVa (v:=M.ag E L N O) (w':=w) ho e4 (by simp[execOp,e3,ev,U,Qaj (hB.kept hw)]) (by rw[e2];exact go rfl bR rfl)
  ·obtain⟨e2,e3,e4,dp⟩:=o2.at_ ho hdep
   have V1:tm a 7=_:=hI.vl dp 1 7 rfl rfl
   refine wCa (f:=47) (args:=#[M.ag E L N O]) ho e4 (by simp[execOp,e3,resolve,invoke,Deferred.ofValue,r47,ev,evf,V1]) ((x2 w hw).mono ?_)
   rintro e W' ⟨rfl,hb⟩
   refine⟨_,rfl,?_⟩
   rw[e2]
   exact go rfl hb rfl
  ·obtain⟨e2,e3,e4,dp⟩:=o3.at_ ho hdep
   have V0:tm a 6=_:=hI.vl dp 0 6 rfl rfl
   have V2:tm a 8=_:=hI.vl dp 2 8 rfl rfl
   refine Qdp (f:=46) (args:=#[M.ag E L N O,I4 c]) ho e4 (by simp[execOp,e3,resolve,invoke,Deferred.ofValue,r46,ev,evf,V0,V2]) ((x3 w).mono ?_)
   rintro e W' ⟨rfl,hb⟩
   exact⟨ch,rfl,pan a W' hI.defers kp (bTn hw hb)⟩
  ·obtain⟨e2,e3,e4,dp⟩:=o4.at_ ho hdep
   exact ((hI.vl dp 3 9 rfl rfl):False).elim
 ·intro k a w hall hI
  have all:∀ j,j<5→k j=true:=fun j hj=>hall j (by rw[hsz];exact hj)
  exact ((hI.va all 3 9 rfl rfl):False).elim
def syD (i:Nat):Option Nat:=match i with|0=>some 7|1=>some 8|2=>some 9|3=>some 10|_=>none
theorem QmX:∀ i,i<5→∀ j,j<5→syD i=syD j→syD i≠none→i=j:=by decide
theorem QnN:∀ i,i<5→∀ d,syD i=some d→d<21:=by
 intro i hi d h
 have:∀ i,i<5→(syD i).all (fun d=>decide (d<21))=true:=by decide
 have:=this i hi
 rw[h] at this
 simpa using this
def syF (M:Md)(E L N O:SL)(c:Int)(j:Nat)(q:Value):Prop:=match j with
 | 0=>q=M.ag E L N O
 | 1=>q=M.ag E L N O
 | 2=>q=I4 c
 | 3=>q=M.ag E L N O
 | _=>True
theorem Qgj {id:Nat}{ops:Array Oper}{Q:Exit→Act→World→Prop}{a0:Act}{w0:World}(M:Md)(E L N O:SL)(c:Int)(B:Nat)(hB:Blk 27 w0 B (M.mc E L N O))
  (hlow:lowB ops=true) (hsz:ops.size=5)
  (oo:OpS ops 0 7 (.load 27 (.tmp 2)) []∧OpS ops 1 8 (.load 27 (.tmp 2)) []∧OpS ops 2 9 (.call { callee:=.value (.func 47),args:=#[.tmp 8],argTypes:=#[27] }) [1]∧OpS ops 3 10 (.call { callee:=.value (.func 46),args:=#[.tmp 7,.tmp 9],argTypes:=#[27,35] }) [0,2]∧OpIn ops 4 none (.store 27 (.tmp 2) (.tmp 10)) none [3])
  (ub:a0.tmps.getD 2 undef=Pt B)
  (x2:∀ w,Bw w0 w→Calls Tryz.prog 47 #[M.ag E L N O] w fun e w'=>e=.returned (I4 c)∧Bw w w')
  (x3:∀ w,Calls Tryz.prog 46 #[M.ag E L N O,I4 c] w fun e w'=>e=.returned (M.ag E L N O)∧Bw w w')
  (hs:21≤a0.tmps.size)
  (fin:∀ a w,a.tmps.size=a0.tmps.size→a.defers=a0.defers→(∀ s,(∀ i,i<5→syD i≠some s)→a.tmps.getD s undef=a0.tmps.getD s undef)→Bw w0 w→Q .normal a w):(Code.region id ops true).wp Tryz.prog Q a0 w0:=by
 obtain⟨o0,o1,o2,o3,o4⟩:=oo
 have r47:∀ args w,(callFunc 47 args).run Tryz.prog w=.ok (.enter 47 args) w:=eNo Tryz.func47 (by kernel_rfl) rfl
 have r46:∀ args w,(callFunc 46 args).run Tryz.prog w=.ok (.enter 46 args) w:=eNo Tryz.func46 (by kernel_rfl) rfl
 refine wRi (by kernel_rfl) hlow (Inv 5 syD a0 (fun _ _ w=>Bw w0 w) (fun _ j q _=>syF M E L N O c j q)) (Inv.start bR.drew) ?_ ?_
 ·intro k i o a w ho hl hcl hdep hI
  have hi:i<5:=by rw[←hsz];exact (Array.getElem?_eq_some_iff.1 ho).1
  have ev:∀ (s:Nat),a.eval (.tmp s)=a.tmps.getD s undef:=fun _=>rfl
  have evf:∀ f,a.eval (.func f)=.func (.func f) #[] #[]:=fun _=>rfl
  have inj:∀ d,syD i=some d→∀ j d',j<5→syD j=some d'→j≠i→d'≠d:=fun d hd j d' hj hd' hne e=>hne (QmX j hj i hi (by rw[hd',hd,e]) (by rw[hd'];simp))
  have kp:∀ s,(∀ i,i<5→syD i≠some s)→a.tmps.getD s undef=a0.tmps.getD s undef:=hI.kept
  have hw:Bw w0 w:=hI.world
  have U:a.tmps.getD 2 undef=Pt B:=(kp 2 (by decide)).trans ub
  have go:∀ {d:Nat}{v:Value}{w':World},syD i=some d→Bw w w'→syF M E L N O c i v→Inv 5 syD a0 (fun _ _ w=>Bw w0 w) (fun _ j q _=>syF M E L N O c j q) (fun j=>k j || j==i) (a.put (some d) v) w':=by
   intro d v w' hD hb hF
   exact hI.put hi hD (Nat.lt_of_lt_of_le (QnN i hi d hD) hs) (inj d hD) (bTn hw hb) hF (fun j u _ _ _ hf=>hf)
  rcases l5 (show i<5 by omega) with rfl|rfl|rfl|rfl|rfl
  ·obtain⟨e2,e3,e4,dp⟩:=o0.at_ ho hdep
   exact wVa (v:=M.ag E L N O) (w':=w) ho e4 (by simp[execOp,e3,ev,U,Qaj (hB.kept hw)]) (by rw[e2];exact go rfl bR rfl)
  ·obtain⟨e2,e3,e4,dp⟩:=o1.at_ ho hdep
   exact wVa (v:=M.ag E L N O) (w':=w) ho e4 (by simp[execOp,e3,ev,U,Qaj (hB.kept hw)]) (by rw[e2];exact go rfl bR rfl)
  ·obtain⟨e2,e3,e4,dp⟩:=o2.at_ ho hdep
   have V1:tm a 8=_:=hI.vl dp 1 8 rfl rfl
   refine wCa (f:=47) (args:=#[M.ag E L N O]) ho e4 (by simp[execOp,e3,resolve,invoke,Deferred.ofValue,r47,ev,evf,V1]) ((x2 w hw).mono ?_)
   rintro e W' ⟨rfl,hb⟩
   refine⟨_,rfl,?_⟩
   rw[e2]
   exact go rfl hb rfl
  ·obtain⟨e2,e3,e4,dp⟩:=o3.at_ ho hdep
   have V0:tm a 7=_:=hI.vl dp 0 7 rfl rfl
   have V2:tm a 9=_:=hI.vl dp 2 9 rfl rfl
   refine wCa (f:=46) (args:=#[M.ag E L N O,I4 c]) ho e4 (by simp[execOp,e3,resolve,invoke,Deferred.ofValue,r46,ev,evf,V0,V2]) ((x3 w).mono ?_)
   rintro e W' ⟨rfl,hb⟩
   refine⟨_,rfl,?_⟩
   rw[e2]
   exact go rfl hb rfl
  ·obtain⟨e2,e3,e4,dp⟩:=o4.at_ ho hdep
   have V3:tm a 10=_:=hI.vl dp 3 10 rfl rfl
   refine wSk (w':=w) ho e4 (by simp[execOp,e3,ev,U,V3,QdJ (hB.kept hw)]) ?_
   rw[e2]
   exact hI.none_ rfl hw (fun j u _ _ _ hf=>hf)
 ·intro k a w hall hI
  have all:∀ j,j<5→k j=true:=fun j hj=>hall j (by rw[hsz];exact hj)
  exact fin a w hI.size hI.defers hI.kept hI.world
def szD (i:Nat):Option Nat:=match i with|0=>some 7|1=>some 8|2=>some 9|3=>some 10|_=>none
theorem QmW:∀ i,i<5→∀ j,j<5→szD i=szD j→szD i≠none→i=j:=by decide
theorem QnM:∀ i,i<5→∀ d,szD i=some d→d<21:=by
 intro i hi d h
 have:∀ i,i<5→(szD i).all (fun d=>decide (d<21))=true:=by decide
 have:=this i hi
 rw[h] at this
 simpa using this
def szF (M:Md)(E L N O:SL)(c:Int)(j:Nat)(q:Value):Prop:=match j with
 | 0=>q=M.ag E L N O
 | 1=>q=M.ag E L N O
 | 2=>q=I4 c
 | 3=>False
 | _=>True
theorem Qki {id:Nat}{ops:Array Oper}{Q:Exit→Act→World→Prop}{a0:Act}{w0:World}(M:Md)(E L N O:SL)(c:Int)(B:Nat)(ch:List PanicEntry)(hB:Blk 27 w0 B (M.mc E L N O))
  (hlow:lowB ops=true) (hsz:ops.size=5)
  (oo:OpS ops 0 7 (.load 27 (.tmp 2)) []∧OpS ops 1 8 (.load 27 (.tmp 2)) []∧OpS ops 2 9 (.call { callee:=.value (.func 47),args:=#[.tmp 8],argTypes:=#[27] }) [1]∧OpS ops 3 10 (.call { callee:=.value (.func 46),args:=#[.tmp 7,.tmp 9],argTypes:=#[27,35] }) [0,2]∧OpIn ops 4 none (.store 27 (.tmp 2) (.tmp 10)) none [3])
  (ub:a0.tmps.getD 2 undef=Pt B)
  (x2:∀ w,Bw w0 w→Calls Tryz.prog 47 #[M.ag E L N O] w fun e w'=>e=.returned (I4 c)∧Bw w w')
  (x3:∀ w,Calls Tryz.prog 46 #[M.ag E L N O,I4 c] w fun e w'=>e=.panicked ch∧Bw w w')
  (hs:21≤a0.tmps.size)
  (pan:∀ a w,a.defers=a0.defers→(∀ s,(∀ i,i<5→szD i≠some s)→a.tmps.getD s undef=a0.tmps.getD s undef)→Bw w0 w→Q (.panic ch) a w):(Code.region id ops true).wp Tryz.prog Q a0 w0:=by
 obtain⟨o0,o1,o2,o3,o4⟩:=oo
 have r47:∀ args w,(callFunc 47 args).run Tryz.prog w=.ok (.enter 47 args) w:=eNo Tryz.func47 (by kernel_rfl) rfl
 have r46:∀ args w,(callFunc 46 args).run Tryz.prog w=.ok (.enter 46 args) w:=eNo Tryz.func46 (by kernel_rfl) rfl
 refine wRi (by kernel_rfl) hlow (Inv 5 szD a0 (fun _ _ w=>Bw w0 w) (fun _ j q _=>szF M E L N O c j q)) (Inv.start bR.drew) ?_ ?_
 ·intro k i o a w ho hl hcl hdep hI
  have hi:i<5:=by rw[←hsz];exact (Array.getElem?_eq_some_iff.1 ho).1
  have ev:∀ (s:Nat),a.eval (.tmp s)=a.tmps.getD s undef:=fun _=>rfl
  have evf:∀ f,a.eval (.func f)=.func (.func f) #[] #[]:=fun _=>rfl
  have inj:∀ d,szD i=some d→∀ j d',j<5→szD j=some d'→j≠i→d'≠d:=fun d hd j d' hj hd' hne e=>hne (QmW j hj i hi (by rw[hd',hd,e]) (by rw[hd'];simp))
  have kp:∀ s,(∀ i,i<5→szD i≠some s)→a.tmps.getD s undef=a0.tmps.getD s undef:=hI.kept
  have hw:Bw w0 w:=hI.world
  have U:a.tmps.getD 2 undef=Pt B:=(kp 2 (by decide)).trans ub
  have go:∀ {d:Nat}{v:Value}{w':World},szD i=some d→Bw w w'→szF M E L N O c i v→Inv 5 szD a0 (fun _ _ w=>Bw w0 w) (fun _ j q _=>szF M E L N O c j q) (fun j=>k j || j==i) (a.put (some d) v) w':=by
   intro d v w' hD hb hF
   exact hI.put hi hD (Nat.lt_of_lt_of_le (QnM i hi d hD) hs) (inj d hD) (bTn hw hb) hF (fun j u _ _ _ hf=>hf)
  rcases l5 (show i<5 by omega) with rfl|rfl|rfl|rfl|rfl
  ·obtain⟨e2,e3,e4,dp⟩:=o0.at_ ho hdep
   exact wVa (v:=M.ag E L N O) (w':=w) ho e4 (by simp[execOp,e3,ev,U,Qaj (hB.kept hw)]) (by rw[e2];exact go rfl bR rfl)
  ·obtain⟨e2,e3,e4,dp⟩:=o1.at_ ho hdep
   exact wVa (v:=M.ag E L N O) (w':=w) ho e4 (by simp[execOp,e3,ev,U,Qaj (hB.kept hw)]) (by rw[e2];exact go rfl bR rfl)
  ·obtain⟨e2,e3,e4,dp⟩:=o2.at_ ho hdep
   have V1:tm a 8=_:=hI.vl dp 1 8 rfl rfl
   refine wCa (f:=47) (args:=#[M.ag E L N O]) ho e4 (by simp[execOp,e3,resolve,invoke,Deferred.ofValue,r47,ev,evf,V1]) ((x2 w hw).mono ?_)
   rintro e W' ⟨rfl,hb⟩
   refine⟨_,rfl,?_⟩
   rw[e2]
   exact go rfl hb rfl
  ·obtain⟨e2,e3,e4,dp⟩:=o3.at_ ho hdep
   have V0:tm a 7=_:=hI.vl dp 0 7 rfl rfl
   have V2:tm a 9=_:=hI.vl dp 2 9 rfl rfl
   refine Qdp (f:=46) (args:=#[M.ag E L N O,I4 c]) ho e4 (by simp[execOp,e3,resolve,invoke,Deferred.ofValue,r46,ev,evf,V0,V2]) ((x3 w).mono ?_)
   rintro e W' ⟨rfl,hb⟩
   exact⟨ch,rfl,pan a W' hI.defers kp (bTn hw hb)⟩
  ·obtain⟨e2,e3,e4,dp⟩:=o4.at_ ho hdep
   exact ((hI.vl dp 3 10 rfl rfl):False).elim
 ·intro k a w hall hI
  have all:∀ j,j<5→k j=true:=fun j hj=>hall j (by rw[hsz];exact hj)
  exact ((hI.va all 3 10 rfl rfl):False).elim
def ad4D (i:Nat):Option Nat:=match i with|0=>some 17|1=>some 18|2=>some 19|3=>some 20|4=>some 21|5=>some 22|6=>some 23|7=>some 24|8=>some 25|9=>some 26|10=>some 27|11=>some 28|12=>some 29|13=>some 30|14=>some 31|15=>some 32|16=>some 16|17=>some 33|18=>some 34|19=>some 7|21=>some 8|_=>none
theorem QmG:∀ i,i<22→∀ j,j<22→ad4D i=ad4D j→ad4D i≠none→i=j:=by decide
def ad4F (cfD cfH cfL cfV cfU cfX cfT cfN rk sf sd9 q1 q2 q3:Int)(nn cb:Nat)(zs:List Int)(ee:Int)(g9:Nat)(z9:Array Value)(k:Nat→Bool)(j:Nat)(q:Value)(w:World):Prop:=match j with
 | 0=>q=I4 rk
 | 1=>q=.int .u64 sd9
 | 2=>q=.int .u64 sf
 | 3=>q=I4 sf
 | 4=>q=.agg #[I4 cfD,I4 cfH,I4 cfL,I4 cfV,I4 cfU,I4 cfX,I4 cfT,I4 cfN]
 | 5=>q=.pointer (some ⟨cb,2,none⟩)
 | 6=>q=I4 cfL
 | 7=>q=I4 q1
 | 8=>q=I4 rk
 | 9=>q=I4 q2
 | 10=>q=Pt cb
 | 11=>q=I4 cfD
 | 12=>q=I4 q3
 | 13=>q=.int .u64 sd9
 | 14=>k 20=false→(∃ ya yc,q=.slice ya nn yc∧IsS w ⟨ya,nn,yc⟩ zs)
 | 15=>True
 | 16=>True
 | 17=>True
 | 18=>q=I4 ee
 | 19=>∃ b,q=Pt b∧g9≤b∧b<w.heap.size∧(k 20=false→Blk 30 w b z9)
 | 20=>True
 | 21=>q=I4 ee
 | _=>True
theorem QjY {id:Nat}{ops:Array Oper}{Q:Exit→Act→World→Prop}{a0:Act}{w0:World}{T:Type}{V:T→Value}{cs:T→Array Value}{I:T→Nat→Nat→World→Prop}(hI9:Qj1 I)(cfD cfH cfL cfV cfU cfX cfT cfN rk sf sd9 q1 q2 q3:Int)(nn cb:Nat)(zs:List Int)(ee:Int)(z9:Array Value)(hlow:lowB ops=true)(hsz:ops.size=22)
  (oo:OpS ops 0 17 (.move (.tmp 0)) []∧OpS ops 1 18 (.move (.tmp 2)) []∧OpS ops 2 19 (.binOp .rem 44 (.tmp 18) (.const (.int .u64 3)) 44) [1]∧OpS ops 3 20 (.convert 44 3 (.tmp 19)) [2]∧OpS ops 4 21 (.load 23 (.tmp 4)) []∧OpS ops 5 22 (.fieldAddr 23 (.tmp 4) 2) []∧OpS ops 6 23 (.load 3 (.tmp 22)) [5]∧OpS ops 7 24 (.binOp .mul 3 (.tmp 23) (.const (I4 4)) 3) [6]∧OpS ops 8 25 (.move (.tmp 0)) []∧OpS ops 9 26 (.binOp .mul 3 (.tmp 24) (.tmp 25) 3) [7,8]∧OpS ops 10 27 (.fieldAddr 23 (.tmp 4) 0) []∧OpS ops 11 28 (.load 3 (.tmp 27)) [10]∧OpS ops 12 29 (.binOp .mul 3 (.tmp 26) (.tmp 28) 3) [9,11]∧OpS ops 13 30 (.move (.tmp 2)) []∧OpS ops 14 31 (.call { callee:=.value (.func 40),args:=#[.tmp 29,.tmp 30],argTypes:=#[3,44] }) [12,13]∧OpS ops 15 32 (.call { callee:=.value (.func 42),args:=#[.tmp 17,.tmp 20,.tmp 21,.tmp 31],argTypes:=#[3,3,23,24] }) [0,3,4,14]∧OpS ops 16 16 (.move (.tmp 32)) [15]∧OpS ops 17 33 (.extract (.tmp 16) 0) [16]∧OpS ops 18 34 (.extract (.tmp 16) 1) [16]∧OpS ops 19 7 (.alloc 30) []∧OpIn ops 20 none (.store 30 (.tmp 7) (.tmp 33)) none [17,19]∧OpS ops 21 8 (.assign (.tmp 34)) [18])
  (x2:∀ w,(binOp .rem 44 (.int .u64 sd9) (.int .u64 3)).run Tryz.prog w=.ok (.int .u64 sf) w)
  (x3:∀ w,(convert 44 3 (.int .u64 sf)).run Tryz.prog w=.ok (I4 sf) w)
  (x4:∀ w,Bw w0 w→(Instr.loadAt 23 (Pt cb)).run Tryz.prog w=.ok (.agg #[I4 cfD,I4 cfH,I4 cfL,I4 cfV,I4 cfU,I4 cfX,I4 cfT,I4 cfN]) w)
  (x5:∀ w,(Instr.fieldAt 23 (Pt cb) 2).run Tryz.prog w=.ok (.pointer (some ⟨cb,2,none⟩)) w)
  (x6:∀ w,Bw w0 w→(Instr.loadAt 3 (.pointer (some ⟨cb,2,none⟩))).run Tryz.prog w=.ok (I4 cfL) w)
  (x7:∀ w,(binOp .mul 3 (I4 cfL) (I4 4)).run Tryz.prog w=.ok (I4 q1) w)
  (x9:∀ w,(binOp .mul 3 (I4 q1) (I4 rk)).run Tryz.prog w=.ok (I4 q2) w)
  (x10:∀ w,(Instr.fieldAt 23 (Pt cb) 0).run Tryz.prog w=.ok (Pt cb) w)
  (x11:∀ w,Bw w0 w→(Instr.loadAt 3 (Pt cb)).run Tryz.prog w=.ok (I4 cfD) w)
  (x12:∀ w,(binOp .mul 3 (I4 q2) (I4 cfD)).run Tryz.prog w=.ok (I4 q3) w)
  (x14:∀ w,Bw w0 w→Calls Tryz.prog 40 #[I4 q3,.int .u64 sd9] w fun e w'=>(∃ a c,e=.returned (.slice a nn c)∧IsS w' ⟨a,nn,c⟩ zs)∧Bw w w')
  (x15:∀ w ya yc,Bw w0 w→IsS w ⟨ya,nn,yc⟩ zs→Calls Tryz.prog 42 #[I4 rk,I4 sf,.agg #[I4 cfD,I4 cfH,I4 cfL,I4 cfV,I4 cfU,I4 cfX,I4 cfT,I4 cfN],.slice ya nn yc] w fun e w'=>∃ t,e=.returned (.tuple #[V t,I4 ee])∧I t w.heap.size w'.heap.size w'∧Bw w w')
  (u0:a0.tmps.getD 0 undef=I4 rk)
  (u2:a0.tmps.getD 2 undef=.int .u64 sd9)
  (u4:a0.tmps.getD 4 undef=Pt cb)
  (xA:∀ w,(Instr.alloc 30 true (.tuple #[])).run Tryz.prog w=.ok (Pt w.heap.size) (w.alloc (.cells z9 30)))
  (xS:∀ w b t,Blk 30 w b z9→∃ w',(Instr.storeAt 30 (Pt b) (V t)).run Tryz.prog w=.ok () w'∧Blk 30 w' b (cs t)∧Only b w w'∧w'.heap.size=w.heap.size)
  (hs:36≤a0.tmps.size)
  (fin:∀ a w b t lo hi,a.tmps.size=a0.tmps.size→a.defers=a0.defers→(∀ s,(∀ i,i<22→ad4D i≠some s)→a.tmps.getD s undef=a0.tmps.getD s undef)→tm a 7=Pt b→tm a 8=I4 ee→Bw w0 w→w0.heap.size≤b→w0.heap.size≤lo→hi≤w.heap.size→I t lo hi w→Blk 30 w b (cs t)→Q .normal a w):(Code.region id ops true).wp Tryz.prog Q a0 w0:=by
 obtain⟨o0,o1,o2,o3,o4,o5,o6,o7,o8,o9,o10,o11,o12,o13,o14,o15,o16,o17,o18,o19,o20,o21⟩:=oo
 have r40:∀ args w,(callFunc 40 args).run Tryz.prog w=.ok (.enter 40 args) w:=eNo Tryz.func40 (by kernel_rfl) rfl
 have r42:∀ args w,(callFunc 42 args).run Tryz.prog w=.ok (.enter 42 args) w:=eNo Tryz.func42 (by kernel_rfl) rfl
 refine wRi (by kernel_rfl) hlow (Inv 22 ad4D a0 (fun l a w=>Bw w0 w∧Qbf 22 ad4D a0 l a∧CX V cs I 30 ee w0.heap.size (l 15) (l 16) (l 17) (l 19) (l 20) (a.tmps.getD 32 undef) (a.tmps.getD 16 undef) (a.tmps.getD 33 undef) (a.tmps.getD 7 undef) w) (ad4F cfD cfH cfL cfV cfU cfX cfT cfN rk sf sd9 q1 q2 q3 nn cb zs ee w0.heap.size z9)) (Inv.start ⟨bR.drew,QaB _ _ _,(fun e=>by cases e)⟩) ?_ ?_
 ·intro l i o a w ho hl hcl hdep hI
  have hi:i<22:=by rw[←hsz];exact (Array.getElem?_eq_some_iff.1 ho).1
  have ev:∀ (s:Nat),a.eval (.tmp s)=a.tmps.getD s undef:=fun _=>rfl
  have evf:∀ f,a.eval (.func f)=.func (.func f) #[] #[]:=fun _=>rfl
  have evc:∀ c:Value,a.eval (.const c)=c:=fun _=>rfl
  have inj:∀ d,ad4D i=some d→∀ j d',j<22→ad4D j=some d'→j≠i→d'≠d:=fun d hd j d' hj hd' hne e=>hne (QmG j hj i hi (by rw[hd',hd,e]) (by rw[hd'];simp))
  have kp:∀ s,(∀ i,i<22→ad4D i≠some s)→a.tmps.getD s undef=a0.tmps.getD s undef:=hI.kept
  obtain⟨hw,k2,hc⟩:Bw w0 w∧Qbf 22 ad4D a0 l a∧CX V cs I 30 ee w0.heap.size (l 15) (l 16) (l 17) (l 19) (l 20) (a.tmps.getD 32 undef) (a.tmps.getD 16 undef) (a.tmps.getD 33 undef) (a.tmps.getD 7 undef) w:=hI.world
  have oth:∀ j,j≠i→(l j || j==i)=l j:=fun j hj=>by rw[show (j==i)=false by simp[hj],Bool.or_false]
  have sam:(l i || i==i)=true:=by simp
  have gp:∀ (d:Nat) (v:Value) (s:Nat),d<36→(a.put (some d) v).tmps.getD s undef=if s=d then v else a.tmps.getD s undef:=fun d v s hd=>Qby a d v s (by rw[hI.size];exact Nat.lt_of_lt_of_le hd hs)
  have keep:∀ {w':World},i≠20→Bw w w'→∀ j u,j<22→l j=true→j≠i→ad4F cfD cfH cfL cfV cfU cfX cfT cfN rk sf sd9 q1 q2 q3 nn cb zs ee w0.heap.size z9 l j u w→ad4F cfD cfH cfL cfV cfU cfX cfT cfN rk sf sd9 q1 q2 q3 nn cb zs ee w0.heap.size z9 (fun j=>l j || j==i) j u w':=by
   intro w' n6 hb j u hj _ _ hf
   unfold ad4F at hf ⊢
   dsimp only
   rw[oth 20 (fun e=>n6 e.symm)]
   rcases l22 (show j<22 by omega) with rfl|rfl|rfl|rfl|rfl|rfl|rfl|rfl|rfl|rfl|rfl|rfl|rfl|rfl|rfl|rfl|rfl|rfl|rfl|rfl|rfl|rfl
   ·exact hf
   ·exact hf
   ·exact hf
   ·exact hf
   ·exact hf
   ·exact hf
   ·exact hf
   ·exact hf
   ·exact hf
   ·exact hf
   ·exact hf
   ·exact hf
   ·exact hf
   ·exact hf
   ·intro e9;have h:=hf e9;obtain⟨ya,yc,h1,h2⟩:=h;exact⟨ya,yc,h1,h2.below hb⟩
   ·exact hf
   ·exact hf
   ·exact hf
   ·exact hf
   ·obtain⟨b,q1,q2,q3,q4⟩:=hf;exact⟨b,q1,q2,Nat.lt_of_lt_of_le q3 hb.size,fun e=>(q4 e).kept hb⟩
   ·exact hf
   ·exact hf
  rcases l22 (show i<22 by omega) with rfl|rfl|rfl|rfl|rfl|rfl|rfl|rfl|rfl|rfl|rfl|rfl|rfl|rfl|rfl|rfl|rfl|rfl|rfl|rfl|rfl|rfl
  ·obtain⟨e2,e3,e4,dp⟩:=o0.at_ ho hdep
   have n9:l 20=false:=by
    cases e0:l 20 with
    | false=>rfl
    | true =>
     have e0':=hcl.dep' o20 e0 17 (by decide)
     have e1':=hcl.dep' o17 e0' 16 (by decide)
     have e2':=hcl.dep' o16 e1' 15 (by decide)
     have e3':=hcl.dep' o15 e2' 0 (by decide)
     rw[hl] at e3'
     cases e3'
   have U0:=(kp 0 (by decide)).trans u0
   refine wVa (v:=I4 rk) (w':=w) ho e4 (by simp[execOp,e3,ev,evc,U0]) ?_
   rw[e2]
   refine hI.put (by decide) (d:=17) rfl (Nat.lt_of_lt_of_le (by decide) hs) (inj 17 rfl) ?_ (rfl) (keep (by decide) bR)
   refine⟨hw,k2.put rfl (by rw[hI.size];exact Nat.lt_of_lt_of_le (by decide) hs) (by decide),?_⟩
   dsimp only
   rw[gp 17 _ 32 (by decide),gp 17 _ 16 (by decide),gp 17 _ 33 (by decide),gp 17 _ 7 (by decide)]
   simp only[oth 15 (by decide),oth 16 (by decide),oth 17 (by decide),oth 19 (by decide),oth 20 (by decide)]
   exact hc
  ·obtain⟨e2,e3,e4,dp⟩:=o1.at_ ho hdep
   have n9:l 20=false:=by
    cases e0:l 20 with
    | false=>rfl
    | true =>
     have e0':=hcl.dep' o20 e0 17 (by decide)
     have e1':=hcl.dep' o17 e0' 16 (by decide)
     have e2':=hcl.dep' o16 e1' 15 (by decide)
     have e3':=hcl.dep' o15 e2' 3 (by decide)
     have e4':=hcl.dep' o3 e3' 2 (by decide)
     have e5':=hcl.dep' o2 e4' 1 (by decide)
     rw[hl] at e5'
     cases e5'
   have U2:=(kp 2 (by decide)).trans u2
   refine wVa (v:=.int .u64 sd9) (w':=w) ho e4 (by simp[execOp,e3,ev,evc,U2]) ?_
   rw[e2]
   refine hI.put (by decide) (d:=18) rfl (Nat.lt_of_lt_of_le (by decide) hs) (inj 18 rfl) ?_ (rfl) (keep (by decide) bR)
   refine⟨hw,k2.put rfl (by rw[hI.size];exact Nat.lt_of_lt_of_le (by decide) hs) (by decide),?_⟩
   dsimp only
   rw[gp 18 _ 32 (by decide),gp 18 _ 16 (by decide),gp 18 _ 33 (by decide),gp 18 _ 7 (by decide)]
   simp only[oth 15 (by decide),oth 16 (by decide),oth 17 (by decide),oth 19 (by decide),oth 20 (by decide)]
   exact hc
  ·obtain⟨e2,e3,e4,dp⟩:=o2.at_ ho hdep
   have n9:l 20=false:=by
    cases e0:l 20 with
    | false=>rfl
    | true =>
     have e0':=hcl.dep' o20 e0 17 (by decide)
     have e1':=hcl.dep' o17 e0' 16 (by decide)
     have e2':=hcl.dep' o16 e1' 15 (by decide)
     have e3':=hcl.dep' o15 e2' 3 (by decide)
     have e4':=hcl.dep' o3 e3' 2 (by decide)
     rw[hl] at e4'
     cases e4'
   have V1:tm a 18=_:=hI.vl dp 1 18 rfl rfl
   refine wVa (v:=.int .u64 sf) (w':=w) ho e4 (by simp[execOp,e3,ev,evc,V1,x2 w,eqGuard]) ?_
   rw[e2]
   refine hI.put (by decide) (d:=19) rfl (Nat.lt_of_lt_of_le (by decide) hs) (inj 19 rfl) ?_ (rfl) (keep (by decide) bR)
   refine⟨hw,k2.put rfl (by rw[hI.size];exact Nat.lt_of_lt_of_le (by decide) hs) (by decide),?_⟩
   dsimp only
   rw[gp 19 _ 32 (by decide),gp 19 _ 16 (by decide),gp 19 _ 33 (by decide),gp 19 _ 7 (by decide)]
   simp only[oth 15 (by decide),oth 16 (by decide),oth 17 (by decide),oth 19 (by decide),oth 20 (by decide)]
   exact hc
  ·obtain⟨e2,e3,e4,dp⟩:=o3.at_ ho hdep
   have n9:l 20=false:=by
    cases e0:l 20 with
    | false=>rfl
    | true =>
     have e0':=hcl.dep' o20 e0 17 (by decide)
     have e1':=hcl.dep' o17 e0' 16 (by decide)
     have e2':=hcl.dep' o16 e1' 15 (by decide)
     have e3':=hcl.dep' o15 e2' 3 (by decide)
     rw[hl] at e3'
     cases e3'
   have V2:tm a 19=_:=hI.vl dp 2 19 rfl rfl
   refine wVa (v:=I4 sf) (w':=w) ho e4 (by simp[execOp,e3,ev,evc,V2,x3 w]) ?_
   rw[e2]
   refine hI.put (by decide) (d:=20) rfl (Nat.lt_of_lt_of_le (by decide) hs) (inj 20 rfl) ?_ (rfl) (keep (by decide) bR)
   refine⟨hw,k2.put rfl (by rw[hI.size];exact Nat.lt_of_lt_of_le (by decide) hs) (by decide),?_⟩
   dsimp only
   rw[gp 20 _ 32 (by decide),gp 20 _ 16 (by decide),gp 20 _ 33 (by decide),gp 20 _ 7 (by decide)]
   simp only[oth 15 (by decide),oth 16 (by decide),oth 17 (by decide),oth 19 (by decide),oth 20 (by decide)]
   exact hc
  ·obtain⟨e2,e3,e4,dp⟩:=o4.at_ ho hdep
   have n9:l 20=false:=by
    cases e0:l 20 with
    | false=>rfl
    | true =>
     have e0':=hcl.dep' o20 e0 17 (by decide)
     have e1':=hcl.dep' o17 e0' 16 (by decide)
     have e2':=hcl.dep' o16 e1' 15 (by decide)
     have e3':=hcl.dep' o15 e2' 4 (by decide)
     rw[hl] at e3'
     cases e3'
   have U4:=(kp 4 (by decide)).trans u4
   refine wVa (v:=.agg #[I4 cfD,I4 cfH,I4 cfL,I4 cfV,I4 cfU,I4 cfX,I4 cfT,I4 cfN]) (w':=w) ho e4 (by simp[execOp,e3,ev,evc,U4,x4 w hw]) ?_
   rw[e2]
   refine hI.put (by decide) (d:=21) rfl (Nat.lt_of_lt_of_le (by decide) hs) (inj 21 rfl) ?_ (rfl) (keep (by decide) bR)
   refine⟨hw,k2.put rfl (by rw[hI.size];exact Nat.lt_of_lt_of_le (by decide) hs) (by decide),?_⟩
   dsimp only
   rw[gp 21 _ 32 (by decide),gp 21 _ 16 (by decide),gp 21 _ 33 (by decide),gp 21 _ 7 (by decide)]
   simp only[oth 15 (by decide),oth 16 (by decide),oth 17 (by decide),oth 19 (by decide),oth 20 (by decide)]
   exact hc
  ·obtain⟨e2,e3,e4,dp⟩:=o5.at_ ho hdep
   have n9:l 20=false:=by
    cases e0:l 20 with
    | false=>rfl
    | true =>
     have e0':=hcl.dep' o20 e0 17 (by decide)
     have e1':=hcl.dep' o17 e0' 16 (by decide)
     have e2':=hcl.dep' o16 e1' 15 (by decide)
     have e3':=hcl.dep' o15 e2' 14 (by decide)
     have e4':=hcl.dep' o14 e3' 12 (by decide)
     have e5':=hcl.dep' o12 e4' 9 (by decide)
     have e6':=hcl.dep' o9 e5' 7 (by decide)
     have e7':=hcl.dep' o7 e6' 6 (by decide)
     have e8':=hcl.dep' o6 e7' 5 (by decide)
     rw[hl] at e8'
     cases e8'
   have U4:=(kp 4 (by decide)).trans u4
   refine wVa (v:=.pointer (some ⟨cb,2,none⟩)) (w':=w) ho e4 (by simp[execOp,e3,ev,evc,U4,x5 w]) ?_
   rw[e2]
   refine hI.put (by decide) (d:=22) rfl (Nat.lt_of_lt_of_le (by decide) hs) (inj 22 rfl) ?_ (rfl) (keep (by decide) bR)
   refine⟨hw,k2.put rfl (by rw[hI.size];exact Nat.lt_of_lt_of_le (by decide) hs) (by decide),?_⟩
   dsimp only
   rw[gp 22 _ 32 (by decide),gp 22 _ 16 (by decide),gp 22 _ 33 (by decide),gp 22 _ 7 (by decide)]
   simp only[oth 15 (by decide),oth 16 (by decide),oth 17 (by decide),oth 19 (by decide),oth 20 (by decide)]
   exact hc
  ·obtain⟨e2,e3,e4,dp⟩:=o6.at_ ho hdep
   have n9:l 20=false:=by
    cases e0:l 20 with
    | false=>rfl
    | true =>
     have e0':=hcl.dep' o20 e0 17 (by decide)
     have e1':=hcl.dep' o17 e0' 16 (by decide)
     have e2':=hcl.dep' o16 e1' 15 (by decide)
     have e3':=hcl.dep' o15 e2' 14 (by decide)
     have e4':=hcl.dep' o14 e3' 12 (by decide)
     have e5':=hcl.dep' o12 e4' 9 (by decide)
     have e6':=hcl.dep' o9 e5' 7 (by decide)
     have e7':=hcl.dep' o7 e6' 6 (by decide)
     rw[hl] at e7'
     cases e7'
   have V5:tm a 22=_:=hI.vl dp 5 22 rfl rfl
   refine wVa (v:=I4 cfL) (w':=w) ho e4 (by simp[execOp,e3,ev,evc,V5,x6 w hw]) ?_
   rw[e2]
   refine hI.put (by decide) (d:=23) rfl (Nat.lt_of_lt_of_le (by decide) hs) (inj 23 rfl) ?_ (rfl) (keep (by decide) bR)
   refine⟨hw,k2.put rfl (by rw[hI.size];exact Nat.lt_of_lt_of_le (by decide) hs) (by decide),?_⟩
   dsimp only
   rw[gp 23 _ 32 (by decide),gp 23 _ 16 (by decide),gp 23 _ 33 (by decide),gp 23 _ 7 (by decide)]
   simp only[oth 15 (by decide),oth 16 (by decide),oth 17 (by decide),oth 19 (by decide),oth 20 (by decide)]
   exact hc
  ·obtain⟨e2,e3,e4,dp⟩:=o7.at_ ho hdep
   have n9:l 20=false:=by
    cases e0:l 20 with
    | false=>rfl
    | true =>
     have e0':=hcl.dep' o20 e0 17 (by decide)
     have e1':=hcl.dep' o17 e0' 16 (by decide)
     have e2':=hcl.dep' o16 e1' 15 (by decide)
     have e3':=hcl.dep' o15 e2' 14 (by decide)
     have e4':=hcl.dep' o14 e3' 12 (by decide)
     have e5':=hcl.dep' o12 e4' 9 (by decide)
     have e6':=hcl.dep' o9 e5' 7 (by decide)
     rw[hl] at e6'
     cases e6'
   have V6:tm a 23=_:=hI.vl dp 6 23 rfl rfl
   refine wVa (v:=I4 q1) (w':=w) ho e4 (by simp[execOp,e3,ev,evc,V6,x7 w,eqGuard]) ?_
   rw[e2]
   refine hI.put (by decide) (d:=24) rfl (Nat.lt_of_lt_of_le (by decide) hs) (inj 24 rfl) ?_ (rfl) (keep (by decide) bR)
   refine⟨hw,k2.put rfl (by rw[hI.size];exact Nat.lt_of_lt_of_le (by decide) hs) (by decide),?_⟩
   dsimp only
   rw[gp 24 _ 32 (by decide),gp 24 _ 16 (by decide),gp 24 _ 33 (by decide),gp 24 _ 7 (by decide)]
   simp only[oth 15 (by decide),oth 16 (by decide),oth 17 (by decide),oth 19 (by decide),oth 20 (by decide)]
   exact hc
  ·obtain⟨e2,e3,e4,dp⟩:=o8.at_ ho hdep
   have n9:l 20=false:=by
    cases e0:l 20 with
    | false=>rfl
    | true =>
     have e0':=hcl.dep' o20 e0 17 (by decide)
     have e1':=hcl.dep' o17 e0' 16 (by decide)
     have e2':=hcl.dep' o16 e1' 15 (by decide)
     have e3':=hcl.dep' o15 e2' 14 (by decide)
     have e4':=hcl.dep' o14 e3' 12 (by decide)
     have e5':=hcl.dep' o12 e4' 9 (by decide)
     have e6':=hcl.dep' o9 e5' 8 (by decide)
     rw[hl] at e6'
     cases e6'
   have U0:=(kp 0 (by decide)).trans u0
   refine wVa (v:=I4 rk) (w':=w) ho e4 (by simp[execOp,e3,ev,evc,U0]) ?_
   rw[e2]
   refine hI.put (by decide) (d:=25) rfl (Nat.lt_of_lt_of_le (by decide) hs) (inj 25 rfl) ?_ (rfl) (keep (by decide) bR)
   refine⟨hw,k2.put rfl (by rw[hI.size];exact Nat.lt_of_lt_of_le (by decide) hs) (by decide),?_⟩
   dsimp only
   rw[gp 25 _ 32 (by decide),gp 25 _ 16 (by decide),gp 25 _ 33 (by decide),gp 25 _ 7 (by decide)]
   simp only[oth 15 (by decide),oth 16 (by decide),oth 17 (by decide),oth 19 (by decide),oth 20 (by decide)]
   exact hc
  ·obtain⟨e2,e3,e4,dp⟩:=o9.at_ ho hdep
   have n9:l 20=false:=by
    cases e0:l 20 with
    | false=>rfl
    | true =>
     have e0':=hcl.dep' o20 e0 17 (by decide)
     have e1':=hcl.dep' o17 e0' 16 (by decide)
     have e2':=hcl.dep' o16 e1' 15 (by decide)
     have e3':=hcl.dep' o15 e2' 14 (by decide)
     have e4':=hcl.dep' o14 e3' 12 (by decide)
     have e5':=hcl.dep' o12 e4' 9 (by decide)
     rw[hl] at e5'
     cases e5'
   have V7:tm a 24=_:=hI.vl dp 7 24 rfl rfl
   have V8:tm a 25=_:=hI.vl dp 8 25 rfl rfl
   refine wVa (v:=I4 q2) (w':=w) ho e4 (by simp[execOp,e3,ev,evc,V7,V8,x9 w,eqGuard]) ?_
   rw[e2]
   refine hI.put (by decide) (d:=26) rfl (Nat.lt_of_lt_of_le (by decide) hs) (inj 26 rfl) ?_ (rfl) (keep (by decide) bR)
   refine⟨hw,k2.put rfl (by rw[hI.size];exact Nat.lt_of_lt_of_le (by decide) hs) (by decide),?_⟩
   dsimp only
   rw[gp 26 _ 32 (by decide),gp 26 _ 16 (by decide),gp 26 _ 33 (by decide),gp 26 _ 7 (by decide)]
   simp only[oth 15 (by decide),oth 16 (by decide),oth 17 (by decide),oth 19 (by decide),oth 20 (by decide)]
   exact hc
  ·obtain⟨e2,e3,e4,dp⟩:=o10.at_ ho hdep
   have n9:l 20=false:=by
    cases e0:l 20 with
    | false=>rfl
    | true =>
     have e0':=hcl.dep' o20 e0 17 (by decide)
     have e1':=hcl.dep' o17 e0' 16 (by decide)
     have e2':=hcl.dep' o16 e1' 15 (by decide)
     have e3':=hcl.dep' o15 e2' 14 (by decide)
     have e4':=hcl.dep' o14 e3' 12 (by decide)
     have e5':=hcl.dep' o12 e4' 11 (by decide)
     have e6':=hcl.dep' o11 e5' 10 (by decide)
     rw[hl] at e6'
     cases e6'
   have U4:=(kp 4 (by decide)).trans u4
   refine wVa (v:=Pt cb) (w':=w) ho e4 (by simp[execOp,e3,ev,evc,U4,x10 w]) ?_
   rw[e2]
   refine hI.put (by decide) (d:=27) rfl (Nat.lt_of_lt_of_le (by decide) hs) (inj 27 rfl) ?_ (rfl) (keep (by decide) bR)
   refine⟨hw,k2.put rfl (by rw[hI.size];exact Nat.lt_of_lt_of_le (by decide) hs) (by decide),?_⟩
   dsimp only
   rw[gp 27 _ 32 (by decide),gp 27 _ 16 (by decide),gp 27 _ 33 (by decide),gp 27 _ 7 (by decide)]
   simp only[oth 15 (by decide),oth 16 (by decide),oth 17 (by decide),oth 19 (by decide),oth 20 (by decide)]
   exact hc
  ·obtain⟨e2,e3,e4,dp⟩:=o11.at_ ho hdep
   have n9:l 20=false:=by
    cases e0:l 20 with
    | false=>rfl
    | true =>
     have e0':=hcl.dep' o20 e0 17 (by decide)
     have e1':=hcl.dep' o17 e0' 16 (by decide)
     have e2':=hcl.dep' o16 e1' 15 (by decide)
     have e3':=hcl.dep' o15 e2' 14 (by decide)
     have e4':=hcl.dep' o14 e3' 12 (by decide)
     have e5':=hcl.dep' o12 e4' 11 (by decide)
     rw[hl] at e5'
     cases e5'
   have V10:tm a 27=_:=hI.vl dp 10 27 rfl rfl
   refine wVa (v:=I4 cfD) (w':=w) ho e4 (by simp[execOp,e3,ev,evc,V10,x11 w hw]) ?_
   rw[e2]
   refine hI.put (by decide) (d:=28) rfl (Nat.lt_of_lt_of_le (by decide) hs) (inj 28 rfl) ?_ (rfl) (keep (by decide) bR)
   refine⟨hw,k2.put rfl (by rw[hI.size];exact Nat.lt_of_lt_of_le (by decide) hs) (by decide),?_⟩
   dsimp only
   rw[gp 28 _ 32 (by decide),gp 28 _ 16 (by decide),gp 28 _ 33 (by decide),gp 28 _ 7 (by decide)]
   simp only[oth 15 (by decide),oth 16 (by decide),oth 17 (by decide),oth 19 (by decide),oth 20 (by decide)]
   exact hc
  ·obtain⟨e2,e3,e4,dp⟩:=o12.at_ ho hdep
   have n9:l 20=false:=by
    cases e0:l 20 with
    | false=>rfl
    | true =>
     have e0':=hcl.dep' o20 e0 17 (by decide)
     have e1':=hcl.dep' o17 e0' 16 (by decide)
     have e2':=hcl.dep' o16 e1' 15 (by decide)
     have e3':=hcl.dep' o15 e2' 14 (by decide)
     have e4':=hcl.dep' o14 e3' 12 (by decide)
     rw[hl] at e4'
     cases e4'
   have V9:tm a 26=_:=hI.vl dp 9 26 rfl rfl
   have V11:tm a 28=_:=hI.vl dp 11 28 rfl rfl
   refine wVa (v:=I4 q3) (w':=w) ho e4 (by simp[execOp,e3,ev,evc,V9,V11,x12 w,eqGuard]) ?_
   rw[e2]
   refine hI.put (by decide) (d:=29) rfl (Nat.lt_of_lt_of_le (by decide) hs) (inj 29 rfl) ?_ (rfl) (keep (by decide) bR)
   refine⟨hw,k2.put rfl (by rw[hI.size];exact Nat.lt_of_lt_of_le (by decide) hs) (by decide),?_⟩
   dsimp only
   rw[gp 29 _ 32 (by decide),gp 29 _ 16 (by decide),gp 29 _ 33 (by decide),gp 29 _ 7 (by decide)]
   simp only[oth 15 (by decide),oth 16 (by decide),oth 17 (by decide),oth 19 (by decide),oth 20 (by decide)]
   exact hc
  ·obtain⟨e2,e3,e4,dp⟩:=o13.at_ ho hdep
   have n9:l 20=false:=by
    cases e0:l 20 with
    | false=>rfl
    | true =>
     have e0':=hcl.dep' o20 e0 17 (by decide)
     have e1':=hcl.dep' o17 e0' 16 (by decide)
     have e2':=hcl.dep' o16 e1' 15 (by decide)
     have e3':=hcl.dep' o15 e2' 14 (by decide)
     have e4':=hcl.dep' o14 e3' 13 (by decide)
     rw[hl] at e4'
     cases e4'
   have U2:=(kp 2 (by decide)).trans u2
   refine wVa (v:=.int .u64 sd9) (w':=w) ho e4 (by simp[execOp,e3,ev,evc,U2]) ?_
   rw[e2]
   refine hI.put (by decide) (d:=30) rfl (Nat.lt_of_lt_of_le (by decide) hs) (inj 30 rfl) ?_ (rfl) (keep (by decide) bR)
   refine⟨hw,k2.put rfl (by rw[hI.size];exact Nat.lt_of_lt_of_le (by decide) hs) (by decide),?_⟩
   dsimp only
   rw[gp 30 _ 32 (by decide),gp 30 _ 16 (by decide),gp 30 _ 33 (by decide),gp 30 _ 7 (by decide)]
   simp only[oth 15 (by decide),oth 16 (by decide),oth 17 (by decide),oth 19 (by decide),oth 20 (by decide)]
   exact hc
  ·obtain⟨e2,e3,e4,dp⟩:=o14.at_ ho hdep
   have n9:l 20=false:=by
    cases e0:l 20 with
    | false=>rfl
    | true =>
     have e0':=hcl.dep' o20 e0 17 (by decide)
     have e1':=hcl.dep' o17 e0' 16 (by decide)
     have e2':=hcl.dep' o16 e1' 15 (by decide)
     have e3':=hcl.dep' o15 e2' 14 (by decide)
     rw[hl] at e3'
     cases e3'
   have V12:tm a 29=_:=hI.vl dp 12 29 rfl rfl
   have V13:tm a 30=_:=hI.vl dp 13 30 rfl rfl
   refine wCa (f:=40) (args:=#[I4 q3,.int .u64 sd9]) ho e4 (by simp[execOp,e3,resolve,invoke,Deferred.ofValue,r40,ev,evf,evc,V12,V13]) ((x14 w hw).mono ?_)
   rintro e W ⟨⟨a6,c6,rfl,f6⟩,hb6⟩
   refine⟨_,rfl,?_⟩
   rw[e2]
   refine hI.put (by decide) (d:=31) rfl (Nat.lt_of_lt_of_le (by decide) hs) (inj 31 rfl) ?_ (fun _=>⟨a6,c6,rfl,f6⟩) (keep (by decide) (hb6))
   refine⟨bTn hw (hb6),k2.put rfl (by rw[hI.size];exact Nat.lt_of_lt_of_le (by decide) hs) (by decide),?_⟩
   dsimp only
   rw[gp 31 _ 32 (by decide),gp 31 _ 16 (by decide),gp 31 _ 33 (by decide),gp 31 _ 7 (by decide)]
   simp only[oth 15 (by decide),oth 16 (by decide),oth 17 (by decide),oth 19 (by decide),oth 20 (by decide)]
   exact hc.below hI9 hb6
  ·obtain⟨e2,e3,e4,dp⟩:=o15.at_ ho hdep
   have n9:l 20=false:=by
    cases e0:l 20 with
    | false=>rfl
    | true =>
     have e0':=hcl.dep' o20 e0 17 (by decide)
     have e1':=hcl.dep' o17 e0' 16 (by decide)
     have e2':=hcl.dep' o16 e1' 15 (by decide)
     rw[hl] at e2'
     cases e2'
   have V0:tm a 17=_:=hI.vl dp 0 17 rfl rfl
   have V3:tm a 20=_:=hI.vl dp 3 20 rfl rfl
   have V4:tm a 21=_:=hI.vl dp 4 21 rfl rfl
   obtain⟨a14,c14,V14,f14⟩:∃ ya yc,a.tmps.getD 31 undef=.slice ya nn yc∧IsS w ⟨ya,nn,yc⟩ zs:=hI.vl dp 14 31 rfl rfl n9
   refine wCa (f:=42) (args:=#[I4 rk,I4 sf,.agg #[I4 cfD,I4 cfH,I4 cfL,I4 cfV,I4 cfU,I4 cfX,I4 cfT,I4 cfN],.slice a14 nn c14]) ho e4 (by simp[execOp,e3,resolve,invoke,Deferred.ofValue,r42,ev,evf,evc,V0,V3,V4,V14]) ((x15 w a14 c14 hw f14).mono ?_)
   rintro e W ⟨t,rfl,ht,hb⟩
   refine⟨_,rfl,?_⟩
   rw[e2]
   refine hI.put (by decide) (d:=32) rfl (Nat.lt_of_lt_of_le (by decide) hs) (inj 32 rfl) ?_ (trivial) (keep (by decide) (hb))
   refine⟨bTn hw (hb),k2.put rfl (by rw[hI.size];exact Nat.lt_of_lt_of_le (by decide) hs) (by decide),?_⟩
   dsimp only
   rw[gp 32 _ 32 (by decide),gp 32 _ 16 (by decide),gp 32 _ 33 (by decide),gp 32 _ 7 (by decide)]
   simp only[oth 16 (by decide),oth 17 (by decide),oth 19 (by decide),oth 20 (by decide),sam]
   exact fun _=>⟨t,w.heap.size,W.heap.size,rfl,(fun e9=>by
     have y:=hcl.dep' o16 e9 15 (by decide)
     rw[hl] at y
     cases y),(fun e9=>by
     have y:=hcl.dep' o16 (hcl.dep' o17 e9 16 (by decide)) 15 (by decide)
     rw[hl] at y
     cases y),hw.size,Nat.le_refl _,ht,(fun e9 b eb=>by
     obtain⟨b2,p1,p2,p3,p4⟩:∃ b,tm a 7=Pt b∧w0.heap.size≤b∧b<w.heap.size∧(l 20=false→Blk 30 w b z9):=hI.val 19 7 (by decide) rfl e9
     have:=p1.symm.trans eb
     simp at this
     omega),(fun e9=>by rw[n9] at e9;cases e9)⟩
  ·obtain⟨e2,e3,e4,dp⟩:=o16.at_ ho hdep
   have n9:l 20=false:=by
    cases e0:l 20 with
    | false=>rfl
    | true =>
     have e0':=hcl.dep' o20 e0 17 (by decide)
     have e1':=hcl.dep' o17 e0' 16 (by decide)
     rw[hl] at e1'
     cases e1'
   obtain⟨t,lo,hh,Vc,h2,h3,h4,h5,h6,h7,h8⟩:=hc (dp 15 (by decide))
   refine wVa (v:=.tuple #[V t,I4 ee]) (w':=w) ho e4 (by simp[execOp,e3,ev,evc,Vc]) ?_
   rw[e2]
   refine hI.put (by decide) (d:=16) rfl (Nat.lt_of_lt_of_le (by decide) hs) (inj 16 rfl) ?_ (trivial) (keep (by decide) bR)
   refine⟨hw,k2.put rfl (by rw[hI.size];exact Nat.lt_of_lt_of_le (by decide) hs) (by decide),?_⟩
   dsimp only
   rw[gp 16 _ 32 (by decide),gp 16 _ 16 (by decide),gp 16 _ 33 (by decide),gp 16 _ 7 (by decide)]
   simp only[oth 15 (by decide),oth 17 (by decide),oth 19 (by decide),oth 20 (by decide),sam]
   rw[dp 15 (by decide)] at hc ⊢
   rw[←Vc]
   exact hc.moved
  ·obtain⟨e2,e3,e4,dp⟩:=o17.at_ ho hdep
   have n9:l 20=false:=by
    cases e0:l 20 with
    | false=>rfl
    | true =>
     have e0':=hcl.dep' o20 e0 17 (by decide)
     rw[hl] at e0'
     cases e0'
   obtain⟨t,lo,hh,Vc,h2,h3,h4,h5,h6,h7,h8⟩:=hc (hcl.dep' o16 (dp 16 (by decide)) 15 (by decide))
   have Vm:=h2 (dp 16 (by decide))
   refine wVa (v:=V t) (w':=w) ho e4 (by simp[execOp,e3,ev,evc,Vm,Instr.extract]) ?_
   rw[e2]
   refine hI.put (by decide) (d:=33) rfl (Nat.lt_of_lt_of_le (by decide) hs) (inj 33 rfl) ?_ (trivial) (keep (by decide) bR)
   refine⟨hw,k2.put rfl (by rw[hI.size];exact Nat.lt_of_lt_of_le (by decide) hs) (by decide),?_⟩
   dsimp only
   rw[gp 33 _ 32 (by decide),gp 33 _ 16 (by decide),gp 33 _ 33 (by decide),gp 33 _ 7 (by decide)]
   simp only[oth 15 (by decide),oth 16 (by decide),oth 19 (by decide),oth 20 (by decide),sam]
   exact fun _=>⟨t,lo,hh,Vc,h2,fun _=>rfl,h4,h5,h6,h7,h8⟩
  ·obtain⟨e2,e3,e4,dp⟩:=o18.at_ ho hdep
   obtain⟨t,lo,hh,Vc,h2,h3,h4,h5,h6,h7,h8⟩:=hc (hcl.dep' o16 (dp 16 (by decide)) 15 (by decide))
   have Vm:=h2 (dp 16 (by decide))
   refine wVa (v:=I4 ee) (w':=w) ho e4 (by simp[execOp,e3,ev,evc,Vm,Instr.extract]) ?_
   rw[e2]
   refine hI.put (by decide) (d:=34) rfl (Nat.lt_of_lt_of_le (by decide) hs) (inj 34 rfl) ?_ (rfl) (keep (by decide) bR)
   refine⟨hw,k2.put rfl (by rw[hI.size];exact Nat.lt_of_lt_of_le (by decide) hs) (by decide),?_⟩
   dsimp only
   rw[gp 34 _ 32 (by decide),gp 34 _ 16 (by decide),gp 34 _ 33 (by decide),gp 34 _ 7 (by decide)]
   simp only[oth 15 (by decide),oth 16 (by decide),oth 17 (by decide),oth 19 (by decide),oth 20 (by decide)]
   exact hc
  ·obtain⟨e2,e3,e4,dp⟩:=o19.at_ ho hdep
   have n9:l 20=false:=by
    cases e0:l 20 with
    | false=>rfl
    | true =>
     have e0':=hcl.dep' o20 e0 19 (by decide)
     rw[hl] at e0'
     cases e0'
   have hb:=bNw (bS w) (.cells z9 30)
   refine wVa (v:=Pt w.heap.size) (w':=w.alloc (.cells z9 30)) ho e4 (by simp[execOp,e3,xA]) ?_
   rw[e2]
   refine hI.put (by decide) (d:=7) rfl (Nat.lt_of_lt_of_le (by decide) hs) (inj 7 rfl) ?_ (⟨w.heap.size,rfl,hw.size,by simp,fun _=>Blk.new 30 w _⟩) (keep (by decide) (hb))
   refine⟨bTn hw (hb),k2.put rfl (by rw[hI.size];exact Nat.lt_of_lt_of_le (by decide) hs) (by decide),?_⟩
   dsimp only
   rw[gp 7 _ 32 (by decide),gp 7 _ 16 (by decide),gp 7 _ 33 (by decide),gp 7 _ 7 (by decide)]
   simp only[oth 15 (by decide),oth 16 (by decide),oth 17 (by decide),oth 20 (by decide),sam]
   rw[n9] at hc ⊢
   exact hc.lay hI9 _
  ·obtain⟨e2,e3,e4,dp⟩:=o20.at_ ho hdep
   obtain⟨b,Va,gb,lb,q⟩:=hI.vl dp 19 7 rfl rfl
   replace q:=q hl
   obtain⟨t,lo,hh,Vc,h2,h3,h4,h5,h6,h7,h8⟩:=hc (hcl.dep' o16 (hcl.dep' o17 (dp 17 (by decide)) 16 (by decide)) 15 (by decide))
   have Vx:=h3 (dp 17 (by decide))
   obtain⟨w',r',q',on,hz⟩:=xS w b t q
   have hb9:Bw w0 w':=Only.below hw gb hw.size on
   refine wSk (w':=w') ho e4 (by simp[execOp,e3,ev,Va,Vx,r']) ?_
   rw[e2]
   refine Inv.none_' hI rfl ⟨hb9,fun s9 hs9=>k2 s9 (fun j hj hl9=>hs9 j hj (by simp[hl9])),?_⟩ (fun j dd hj hD hkj hne hf=>?_)
   ·dsimp only
    simp only[oth 15 (by decide),oth 16 (by decide),oth 17 (by decide),oth 19 (by decide),sam]
    exact fun _=>⟨t,lo,hh,Vc,h2,h3,h4,(by omega),hI9.only h6 on (h7 (dp 19 (by decide)) b Va),h7,fun _=>⟨b,Va,gb,q'⟩⟩
   ·unfold ad4F at hf ⊢
    dsimp only
    rw[sam]
    rcases l22 (show j<22 by omega) with rfl|rfl|rfl|rfl|rfl|rfl|rfl|rfl|rfl|rfl|rfl|rfl|rfl|rfl|rfl|rfl|rfl|rfl|rfl|rfl|rfl|rfl
    ·exact hf
    ·exact hf
    ·exact hf
    ·exact hf
    ·exact hf
    ·exact hf
    ·exact hf
    ·exact hf
    ·exact hf
    ·exact hf
    ·exact hf
    ·exact hf
    ·exact hf
    ·exact hf
    ·intro e9;cases e9
    ·exact hf
    ·exact hf
    ·exact hf
    ·exact hf
    ·obtain⟨b2,p1,p2,p3,p4⟩:=hf;exact⟨b2,p1,p2,by omega,fun e=>by cases e⟩
    ·exact hf
    ·exact hf
  ·obtain⟨e2,e3,e4,dp⟩:=o21.at_ ho hdep
   have V9:tm a 34=_:=hI.vl dp 18 34 rfl rfl
   refine wVa (v:=I4 ee) (w':=w) ho e4 (by simp[execOp,e3,ev,evc,V9]) ?_
   rw[e2]
   refine hI.put (by decide) (d:=8) rfl (Nat.lt_of_lt_of_le (by decide) hs) (inj 8 rfl) ?_ (rfl) (keep (by decide) bR)
   refine⟨hw,k2.put rfl (by rw[hI.size];exact Nat.lt_of_lt_of_le (by decide) hs) (by decide),?_⟩
   dsimp only
   rw[gp 8 _ 32 (by decide),gp 8 _ 16 (by decide),gp 8 _ 33 (by decide),gp 8 _ 7 (by decide)]
   simp only[oth 15 (by decide),oth 16 (by decide),oth 17 (by decide),oth 19 (by decide),oth 20 (by decide)]
   exact hc
 ·intro l a w hall hI
  have all:∀ j,j<22→l j=true:=fun j hj=>hall j (by rw[hsz];exact hj)
  obtain⟨hw,k2,hc⟩:Bw w0 w∧Qbf 22 ad4D a0 l a∧CX V cs I 30 ee w0.heap.size (l 15) (l 16) (l 17) (l 19) (l 20) (a.tmps.getD 32 undef) (a.tmps.getD 16 undef) (a.tmps.getD 33 undef) (a.tmps.getD 7 undef) w:=hI.world
  obtain⟨t,lo,hh,Vc,h2,h3,h4,h5,h6,h7,h8⟩:=hc (all 15 (by decide))
  obtain⟨b,y1,y2,y3⟩:=h8 (all 20 (by decide))
  exact fin a w b t lo hh hI.size hI.defers hI.kept y1 (hI.va all 21 8 rfl rfl) hw y2 h4 h5 h6 y3
theorem Qaq.fits {M:Md}(F:Qaq M):Fits M.m:=by
 have d1:=F.d1
 have dd:M.D*M.D≤8*8:=Nat.mul_le_mul d1 d1
 have bd:∀ {k:Nat}{z:Int},(k:Int)=z*M.D→z≤16→k≤128:=fun {k z} h hz=>by
  have h1:z*(M.D:Int)≤16*8:=by
   rcases Int.le_total 0 z with h0|h0
   ·exact Int.mul_le_mul hz (by omega) (by omega) (by omega)
   ·have:=Int.mul_nonpos_of_nonpos_of_nonneg h0 (show (0:Int)≤M.D by omega)
    omega
  omega
 have xb:M.x≤4:=by rcases F.xt with⟨h,_⟩|⟨_,h,_⟩<;>omega
 have nb:netsN M.x≤4:=by unfold netsN;omega
 refine⟨by have:=bd F.e F.v1;omega,by rw[F.nm];omega,by have:=bd F.o F.v1;omega,by have:=F.l1;omega,fun i hi j hj=>?_,fun i hi=>by rw[F.un i hi];omega,fun i hi=>by rw[F.dn i hi];omega,fun i hi j hj=>?_,fun i hi j hj=>?_⟩
 ·rcases (show j=0∨(1≤j∧j≤4)∨j=5∨j=6 by omega) with rfl|h|rfl|rfl
  ·rw[F.f0 i hi];omega
  ·rw[F.fq i hi j h.1 h.2];omega
  ·rw[F.f5 i hi];omega
  ·have:=bd (F.f6 i hi) (by omega);omega
 ·rw[F.un i hi] at hj
  have:=bd (F.u i hi j hj) (by have:=F.u1;omega)
  omega
 ·rw[F.dn i hi] at hj
  have:=bd (F.d i hi j hj) (by have:=F.u1;omega)
  omega
theorem Qmf:Fits noV:=⟨by show 0≤_;omega,by show 0≤_;omega,by show 0≤_;omega,by show 0≤_;omega,(fun i hi=>by cases hi),(fun i hi=>by cases hi),(fun i hi=>by cases hi),(fun i hi=>by cases hi),(fun i hi=>by cases hi)⟩
theorem Qmg:QlK noA:=⟨by show 0≤_;omega,fun i hi=>by cases hi⟩
end Go.Proofs.YthliomlmhfjhnaaGreat
