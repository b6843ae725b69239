/- Texts put together. -/
import Derived.Test.YthliomlmhfjhnaaGreatZp36
import Derived.Test.YthliomlmhfjhnaaGreatZp34
import Derived.Test.YthliomlmhfjhnaaGreatZp33
namespace Go.Proofs.YthliomlmhfjhnaaGreat
set_option maxRecDepth 20000
set_option maxHeartbeats 16000000
open Go.ChangeShapes Go.WideShapes Go.ChangeAt Go.RowKit
set_option linter.unusedVariables false
set_option linter.unusedSimpArgs false
theorem Qdp {P:Program}{ops:Array Oper}{Q:Exit→Act→World→Prop}{i:Nat}{o:Oper}{a:Act}{w:World}{f:FuncId}{args:Array Value}{K:Act→World→Prop}(ho:ops[i]? = some o)(hg:o.guard=none)(hr:(execOp a.eval o).run P w=.ok (.enter f args) w)(c:Calls P f args w fun e w'=>∃ ch,e=.panicked ch∧Q (.panic ch) a w'):wpOp P ops Q i K a w:=by
 unfold wpOp
 simp only[ho]
 have hw:Region.wanted o (yielded ops a.tmps)=true:=by simp[Region.wanted,hg]
 rw[if_pos hw]
 refine .inl ?_
 unfold Oper.wp
 rw[hr]
 unfold Oper.upon
 refine c.mono ?_
 rintro e w' ⟨ch,rfl,hQ⟩
 exact hQ
def sfD (i:Nat):Option Nat:=match i with|0=>some 41|1=>some 42|2=>some 43|3=>some 44|4=>some 45|5=>some 46|6=>some 47|7=>some 48|8=>some 49|9=>some 50|10=>some 51|_=>none
theorem QmY:∀ i,i<11→∀ j,j<11→sfD i=sfD j→sfD i≠none→i=j:=by decide
theorem QmL:∀ i,i<11→∀ d,sfD i=some d→d<123:=by
 intro i hi d h
 have:∀ i,i<11→(sfD i).all (fun d=>decide (d<123))=true:=by decide
 have:=this i hi
 rw[h] at this
 simpa using this
def sfF (M:Md)(cb np pc:Nat)(pa:Option Addr)(p sz df wd:Int)(bb:Bool)(i:Nat)(q:Value)(w:World):Prop:=match i with
 | 0=>q=.slice pa np pc
 | 1=>q=I4 p
 | 2=>q=I4 p
 | 3=>q=.pointer (some ⟨cb,7,none⟩)
 | 4=>q=I4 M.n
 | 5=>q=I4 sz
 | 6=>q=I4 df
 | 7=>q=.agg M.cc
 | 8=>q=I4 wd
 | 9=>q=.bool bb
 | 10=>q=.tuple #[]
 | _=>True
theorem Qku {M:Md}{cb np pc:Nat}{pa:Option Addr}{p sz df wd:Int}{bb:Bool}{i:Nat}{q:Value}{w w':World}(h:sfF M cb np pc pa p sz df wd bb i q w)(hb:Bw w w'):sfF M cb np pc pa p sz df wd bb i q w':=by
 unfold sfF at h ⊢
 split
 ·exact h
 ·exact h
 ·exact h
 ·exact h
 ·exact h
 ·exact h
 ·exact h
 ·exact h
 ·exact h
 ·exact h
 ·exact h
 ·trivial
theorem Qkt {id:Nat}{ops:Array Oper}{Q:Exit→Act→World→Prop}{a0:Act}{w0:World}(M:Md)(cb np pc:Nat)(pa:Option Addr)(p sz df wd:Int)(bb:Bool)(S:World→Prop)(hlow:lowB ops=true)(hsz:ops.size=11)
  (oo:OpS ops 0 41 (.move (.tmp 2)) []∧OpS ops 1 42 (.move (.tmp 3)) []∧OpS ops 2 43 (.move (.tmp 3)) []∧OpS ops 3 44 (.fieldAddr 23 (.tmp 12) 7) []∧OpS ops 4 45 (.load 3 (.tmp 44)) [3]∧OpS ops 5 46 (.call { callee:=.value (.func 58),args:=#[.tmp 43,.tmp 45],argTypes:=#[3,3] }) [2,4]∧OpS ops 6 47 (.binOp .sub 3 (.tmp 42) (.tmp 46) 3) [1,5]∧OpS ops 7 48 (.load 23 (.tmp 12)) []∧OpS ops 8 49 (.call { callee:=.value (.func 15),args:=#[.tmp 48],argTypes:=#[23] }) [7]∧OpS ops 9 50 (.call { callee:=.value (.func 57),args:=#[.tmp 41,.tmp 47,.tmp 49],argTypes:=#[31,3,3] }) [0,6,8]∧OpS ops 10 51 (.call { callee:=.value (.func 56),args:=#[.tmp 50,.const (I4 21)],argTypes:=#[4,35] }) [9])
  (hS:S w0.drew)
  (x3:∀ w,(Instr.fieldAt 23 (Pt cb) 7).run Tryz.prog w=.ok (.pointer (some ⟨cb,7,none⟩)) w)
  (x4:∀ w,S w→(Instr.loadAt 3 (.pointer (some ⟨cb,7,none⟩))).run Tryz.prog w=.ok (I4 M.n) w)
  (x5:∀ w,Calls Tryz.prog 58 #[I4 p,I4 M.n] w fun e w'=>e=.returned (I4 sz)∧w'=w)
  (x6:∀ w,(binOp .sub 3 (I4 p) (I4 sz)).run Tryz.prog w=.ok (I4 df) w)
  (x7:∀ w,S w→(Instr.loadAt 23 (Pt cb)).run Tryz.prog w=.ok (.agg M.cc) w)
  (x8:∀ w,S w→Calls Tryz.prog 15 #[.agg M.cc] w fun e w'=>e=.returned (I4 wd)∧Bw w w'∧S w')
  (x9:∀ w,S w→Calls Tryz.prog 57 #[.slice pa np pc,I4 df,I4 wd] w fun e w'=>e=.returned (.bool bb)∧w'=w)
  (x10:∀ w,Calls Tryz.prog 56 #[.bool bb,I4 21] w fun e w'=>e=.returned (.tuple #[])∧w'=w)
  (u2:a0.tmps.getD 2 undef=.slice pa np pc)
  (u3:a0.tmps.getD 3 undef=I4 p)
  (u12:a0.tmps.getD 12 undef=Pt cb)
  (hs:123≤a0.tmps.size)
  (fin:∀ a w,a.tmps.size=a0.tmps.size→a.defers=a0.defers→(∀ s,(∀ i,i<11→sfD i≠some s)→a.tmps.getD s undef=a0.tmps.getD s undef)→S w→(∀ i d,i<11→sfD i=some d→sfF M cb np pc pa p sz df wd bb i (a.tmps.getD d undef) w)→Q .normal a w):(Code.region id ops true).wp Tryz.prog Q a0 w0:=by
 obtain⟨o0,o1,o2,o3,o4,o5,o6,o7,o8,o9,o10⟩:=oo
 have r15:∀ args w,(callFunc 15 args).run Tryz.prog w=.ok (.enter 15 args) w:=eNo Tryz.func15 (by kernel_rfl) rfl
 have r56:∀ args w,(callFunc 56 args).run Tryz.prog w=.ok (.enter 56 args) w:=eNo Tryz.func56 (by kernel_rfl) rfl
 have r57:∀ args w,(callFunc 57 args).run Tryz.prog w=.ok (.enter 57 args) w:=eNo Tryz.func57 (by kernel_rfl) rfl
 have r58:∀ args w,(callFunc 58 args).run Tryz.prog w=.ok (.enter 58 args) w:=eNo Tryz.func58 (by kernel_rfl) rfl
 refine wRi (by kernel_rfl) hlow (Inv 11 sfD a0 (fun l a w=>S w∧Qbf 11 sfD a0 l a) (fun _=>sfF M cb np pc pa p sz df wd bb)) (Inv.start ⟨hS,QaB _ _ _⟩) ?_ ?_
 ·intro l i o a w ho hl hcl hdep hI
  have hi:i<11:=by rw[←hsz];exact (Array.getElem?_eq_some_iff.1 ho).1
  have ev:∀ (s:Nat),a.eval (.tmp s)=a.tmps.getD s undef:=fun _=>rfl
  have evf:∀ f,a.eval (.func f)=.func (.func f) #[] #[]:=fun _=>rfl
  have evc:∀ c:Value,a.eval (.const c)=c:=fun _=>rfl
  have inj:∀ d,sfD i=some d→∀ j d',j<11→sfD j=some d'→j≠i→d'≠d:=fun d hd j d' hj hd' hne e=>hne (QmY j hj i hi (by rw[hd',hd,e]) (by rw[hd'];simp))
  have kp:∀ s,(∀ i,i<11→sfD i≠some s)→a.tmps.getD s undef=a0.tmps.getD s undef:=hI.kept
  have hw:S w:=hI.world.1
  have k2:=hI.world.2
  have ex0:=hI.world.2
  have go:∀ {d:Nat}{v:Value}{w':World},sfD i=some d→Bw w w'→S w'→sfF M cb np pc pa p sz df wd bb i v w'→Inv 11 sfD a0 (fun l a w=>S w∧Qbf 11 sfD a0 l a) (fun _=>sfF M cb np pc pa p sz df wd bb) (fun j=>l j || j==i) (a.put (some d) v) w':=by
   intro d v w' hD hb hS' hF
   exact hI.put hi hD (Nat.lt_of_lt_of_le (QmL i hi d hD) hs) (inj d hD) ⟨hS',k2.put hD (by rw[hI.size];exact Nat.lt_of_lt_of_le (QmL i hi d hD) hs) hi⟩ hF (fun j u _ _ _ hf=>Qku hf hb)
  rcases l11 (show i<11 by omega) with rfl|rfl|rfl|rfl|rfl|rfl|rfl|rfl|rfl|rfl|rfl
  ·obtain⟨e2,e3,e4,dp⟩:=o0.at_ ho hdep
   have U2:=(kp 2 (by decide)).trans u2
   exact wVa (v:=.slice pa np pc) (w':=w) ho e4 (by simp[execOp,e3,ev,evc,U2]) (by rw[e2];exact go rfl bR hw rfl)
  ·obtain⟨e2,e3,e4,dp⟩:=o1.at_ ho hdep
   have U3:=(kp 3 (by decide)).trans u3
   exact wVa (v:=I4 p) (w':=w) ho e4 (by simp[execOp,e3,ev,evc,U3]) (by rw[e2];exact go rfl bR hw rfl)
  ·obtain⟨e2,e3,e4,dp⟩:=o2.at_ ho hdep
   have U3:=(kp 3 (by decide)).trans u3
   exact wVa (v:=I4 p) (w':=w) ho e4 (by simp[execOp,e3,ev,evc,U3]) (by rw[e2];exact go rfl bR hw rfl)
  ·obtain⟨e2,e3,e4,dp⟩:=o3.at_ ho hdep
   have U12:=(kp 12 (by decide)).trans u12
   exact wVa (v:=.pointer (some ⟨cb,7,none⟩)) (w':=w) ho e4 (by simp[execOp,e3,ev,evc,U12,x3 w]) (by rw[e2];exact go rfl bR hw rfl)
  ·obtain⟨e2,e3,e4,dp⟩:=o4.at_ ho hdep
   have V3:tm a 44=_:=hI.vl dp 3 44 rfl rfl
   exact wVa (v:=I4 M.n) (w':=w) ho e4 (by simp[execOp,e3,ev,evc,V3,x4 w hw]) (by rw[e2];exact go rfl bR hw rfl)
  ·obtain⟨e2,e3,e4,dp⟩:=o5.at_ ho hdep
   have V2:tm a 43=_:=hI.vl dp 2 43 rfl rfl
   have V4:tm a 45=_:=hI.vl dp 4 45 rfl rfl
   refine wCa (f:=58) (args:=#[I4 p,I4 M.n]) ho e4 (by simp[execOp,e3,resolve,invoke,Deferred.ofValue,r58,ev,evf,evc,V2,V4]) ((x5 w).mono ?_)
   rintro e W' ⟨rfl,hq6⟩
   refine⟨_,rfl,?_⟩
   rw[e2]
   exact go rfl (by rw[hq6];exact Below.refl _ _) (by rw[hq6];exact hw) rfl
  ·obtain⟨e2,e3,e4,dp⟩:=o6.at_ ho hdep
   have V1:tm a 42=_:=hI.vl dp 1 42 rfl rfl
   have V5:tm a 46=_:=hI.vl dp 5 46 rfl rfl
   exact wVa (v:=I4 df) (w':=w) ho e4 (by simp[execOp,e3,ev,evc,V1,V5,x6 w,eqGuard]) (by rw[e2];exact go rfl bR hw rfl)
  ·obtain⟨e2,e3,e4,dp⟩:=o7.at_ ho hdep
   have U12:=(kp 12 (by decide)).trans u12
   exact wVa (v:=.agg M.cc) (w':=w) ho e4 (by simp[execOp,e3,ev,evc,U12,x7 w hw]) (by rw[e2];exact go rfl bR hw rfl)
  ·obtain⟨e2,e3,e4,dp⟩:=o8.at_ ho hdep
   have V7:tm a 48=_:=hI.vl dp 7 48 rfl rfl
   refine wCa (f:=15) (args:=#[.agg M.cc]) ho e4 (by simp[execOp,e3,resolve,invoke,Deferred.ofValue,r15,ev,evf,evc,V7]) ((x8 w hw).mono ?_)
   rintro e W' ⟨rfl,hb6,hs6⟩
   refine⟨_,rfl,?_⟩
   rw[e2]
   exact go rfl hb6 hs6 rfl
  ·obtain⟨e2,e3,e4,dp⟩:=o9.at_ ho hdep
   have V0:tm a 41=_:=hI.vl dp 0 41 rfl rfl
   have V6:tm a 47=_:=hI.vl dp 6 47 rfl rfl
   have V8:tm a 49=_:=hI.vl dp 8 49 rfl rfl
   refine wCa (f:=57) (args:=#[.slice pa np pc,I4 df,I4 wd]) ho e4 (by simp[execOp,e3,resolve,invoke,Deferred.ofValue,r57,ev,evf,evc,V0,V6,V8]) ((x9 w hw).mono ?_)
   rintro e W' ⟨rfl,hq6⟩
   refine⟨_,rfl,?_⟩
   rw[e2]
   exact go rfl (by rw[hq6];exact Below.refl _ _) (by rw[hq6];exact hw) rfl
  ·obtain⟨e2,e3,e4,dp⟩:=o10.at_ ho hdep
   have V9:tm a 50=_:=hI.vl dp 9 50 rfl rfl
   refine wCa (f:=56) (args:=#[.bool bb,I4 21]) ho e4 (by simp[execOp,e3,resolve,invoke,Deferred.ofValue,r56,ev,evf,evc,V9]) ((x10 w).mono ?_)
   rintro e W' ⟨rfl,hq6⟩
   refine⟨_,rfl,?_⟩
   rw[e2]
   exact go rfl (by rw[hq6];exact Below.refl _ _) (by rw[hq6];exact hw) rfl
 ·intro l a w hall hI
  have all:∀ j,j<11→l j=true:=fun j hj=>hall j (by rw[hsz];exact hj)
  exact fin a w hI.size hI.defers hI.kept hI.world.1 (fun i d hi hD=>hI.val i d hi hD (all i hi))
def scD (i:Nat):Option Nat:=match i with|0=>some 76|1=>some 77|2=>some 78|3=>some 79|4=>some 80|5=>some 81|6=>some 82|7=>some 83|8=>some 84|9=>some 85|10=>some 86|11=>some 87|12=>some 88|13=>some 20|14=>some 21|_=>none
theorem Qm0:∀ i,i<15→∀ j,j<15→scD i=scD j→scD i≠none→i=j:=by decide
theorem QmM:∀ i,i<15→∀ d,scD i=some d→d<123:=by
 intro i hi d h
 have:∀ i,i<15→(scD i).all (fun d=>decide (d<123))=true:=by decide
 have:=this i hi
 rw[h] at this
 simpa using this
def scF (cb n pc f1 f2 g:Nat)(pa:Option Addr)(dd:Int)(A1 A2:Nat→Option Addr)(C1:Nat→Nat)(K V:Nat→List Int)(i:Nat)(q:Value)(w:World):Prop:=match i with
 | 0=>q=.slice pa n pc
 | 1=>q=I4 f1
 | 2=>q=Pt cb
 | 3=>q=I4 dd
 | 4=>q=.slice (some ⟨g,0,none⟩) n (n+1)∧Qab g w (.slice (some ⟨g,0,none⟩) n (n+1)) n A1 C1 K
 | 5=>q=.slice pa n pc
 | 6=>q=I4 f1
 | 7=>q=Pt cb
 | 8=>q=I4 dd
 | 9=>q=I4 f2
 | 10=>q=Pt cb
 | 11=>q=I4 dd
 | 12=>∃ b,q=.slice (some ⟨b,0,none⟩) n (n+1)∧g<b∧Qab g w (.slice (some ⟨b,0,none⟩) n (n+1)) n A2 C1 V
 | 13=>q=.slice (some ⟨g,0,none⟩) n (n+1)∧Qab g w (.slice (some ⟨g,0,none⟩) n (n+1)) n A1 C1 K
 | 14=>∃ b,q=.slice (some ⟨b,0,none⟩) n (n+1)∧g<b∧Qab g w (.slice (some ⟨b,0,none⟩) n (n+1)) n A2 C1 V
 | _=>True
theorem Qkw {cb n pc f1 f2 g:Nat}{pa:Option Addr}{dd:Int}{A1 A2:Nat→Option Addr}{C1:Nat→Nat}{K V:Nat→List Int}{i:Nat}{q:Value}{w w':World}(h:scF cb n pc f1 f2 g pa dd A1 A2 C1 K V i q w)(hb:Bw w w'):scF cb n pc f1 f2 g pa dd A1 A2 C1 K V i q w':=by
 unfold scF at h ⊢
 split
 ·exact h
 ·exact h
 ·exact h
 ·exact h
 ·exact⟨h.1,h.2.below hb⟩
 ·exact h
 ·exact h
 ·exact h
 ·exact h
 ·exact h
 ·exact h
 ·exact h
 ·obtain⟨b,h1,h2,h3⟩:=h;exact⟨b,h1,h2,h3.below hb⟩
 ·exact⟨h.1,h.2.below hb⟩
 ·obtain⟨b,h1,h2,h3⟩:=h;exact⟨b,h1,h2,h3.below hb⟩
 ·trivial
theorem Qkv {id:Nat}{ops:Array Oper}{Q:Exit→Act→World→Prop}{a0:Act}{w0:World}(cb n pc f1 f2 g:Nat)(pa:Option Addr)(dd:Int)(A1 A2:Nat→Option Addr)(C1:Nat→Nat)(K V:Nat→List Int)(S:World→Prop)(hlow:lowB ops=true)(hsz:ops.size=15)
  (oo:OpS ops 0 76 (.move (.tmp 2)) []∧OpS ops 1 77 (.move (.tmp 19)) []∧OpS ops 2 78 (.fieldAddr 23 (.tmp 12) 0) []∧OpS ops 3 79 (.load 3 (.tmp 78)) [2]∧OpS ops 4 80 (.call { callee:=.value (.func 61),args:=#[.tmp 76,.tmp 77,.tmp 79],argTypes:=#[31,3,3] }) [0,1,3]∧OpS ops 5 81 (.move (.tmp 2)) []∧OpS ops 6 82 (.move (.tmp 19)) []∧OpS ops 7 83 (.fieldAddr 23 (.tmp 12) 0) []∧OpS ops 8 84 (.load 3 (.tmp 83)) [7]∧OpS ops 9 85 (.binOp .add 3 (.tmp 82) (.tmp 84) 3) [6,8]∧OpS ops 10 86 (.fieldAddr 23 (.tmp 12) 0) []∧OpS ops 11 87 (.load 3 (.tmp 86)) [10]∧OpS ops 12 88 (.call { callee:=.value (.func 61),args:=#[.tmp 81,.tmp 85,.tmp 87],argTypes:=#[31,3,3] }) [4,5,9,11]∧OpS ops 13 20 (.assign (.tmp 80)) [4]∧OpS ops 14 21 (.assign (.tmp 88)) [12])
  (hS:S w0.drew)
  (x2:∀ w,(Instr.fieldAt 23 (Pt cb) 0).run Tryz.prog w=.ok (Pt cb) w)
  (x3:∀ w,S w→(Instr.loadAt 3 (Pt cb)).run Tryz.prog w=.ok (I4 dd) w)
  (x4:∀ w,S w→w.heap.size=g→Calls Tryz.prog 61 #[.slice pa n pc,I4 f1,I4 dd] w fun e w'=>e=.returned (.slice (some ⟨g,0,none⟩) n (n+1))∧Qab g w' (.slice (some ⟨g,0,none⟩) n (n+1)) n A1 C1 K∧Bw w w'∧S w')
  (x7:∀ w,(Instr.fieldAt 23 (Pt cb) 0).run Tryz.prog w=.ok (Pt cb) w)
  (x8:∀ w,S w→(Instr.loadAt 3 (Pt cb)).run Tryz.prog w=.ok (I4 dd) w)
  (x9:∀ w,(binOp .add 3 (I4 f1) (I4 dd)).run Tryz.prog w=.ok (I4 f2) w)
  (x10:∀ w,(Instr.fieldAt 23 (Pt cb) 0).run Tryz.prog w=.ok (Pt cb) w)
  (x11:∀ w,S w→(Instr.loadAt 3 (Pt cb)).run Tryz.prog w=.ok (I4 dd) w)
  (x12:∀ w,S w→g<w.heap.size→Calls Tryz.prog 61 #[.slice pa n pc,I4 f2,I4 dd] w fun e w'=>∃ b,e=.returned (.slice (some ⟨b,0,none⟩) n (n+1))∧g<b∧Qab g w' (.slice (some ⟨b,0,none⟩) n (n+1)) n A2 C1 V∧Bw w w'∧S w')
  (u2:a0.tmps.getD 2 undef=.slice pa n pc)
  (u12:a0.tmps.getD 12 undef=Pt cb)
  (u19:a0.tmps.getD 19 undef=I4 f1)
  (hg:w0.heap.size=g)
  (hs:123≤a0.tmps.size)
  (fin:∀ a w,a.tmps.size=a0.tmps.size→a.defers=a0.defers→(∀ s,(∀ i,i<15→scD i≠some s)→a.tmps.getD s undef=a0.tmps.getD s undef)→S w→(∀ i d,i<15→scD i=some d→scF cb n pc f1 f2 g pa dd A1 A2 C1 K V i (a.tmps.getD d undef) w)→Q .normal a w):(Code.region id ops true).wp Tryz.prog Q a0 w0:=by
 obtain⟨o0,o1,o2,o3,o4,o5,o6,o7,o8,o9,o10,o11,o12,o13,o14⟩:=oo
 have r61:∀ args w,(callFunc 61 args).run Tryz.prog w=.ok (.enter 61 args) w:=eNo Tryz.func61 (by kernel_rfl) rfl
 refine wRi (by kernel_rfl) hlow (Inv 15 scD a0 (fun l a w=>S w∧Qbf 15 scD a0 l a∧(l 4=false→w.heap.size=g)) (fun _=>scF cb n pc f1 f2 g pa dd A1 A2 C1 K V)) (Inv.start ⟨hS,QaB _ _ _,(fun _=>hg)⟩) ?_ ?_
 ·intro l i o a w ho hl hcl hdep hI
  have hi:i<15:=by rw[←hsz];exact (Array.getElem?_eq_some_iff.1 ho).1
  have ev:∀ (s:Nat),a.eval (.tmp s)=a.tmps.getD s undef:=fun _=>rfl
  have evf:∀ f,a.eval (.func f)=.func (.func f) #[] #[]:=fun _=>rfl
  have evc:∀ c:Value,a.eval (.const c)=c:=fun _=>rfl
  have inj:∀ d,scD i=some d→∀ j d',j<15→scD j=some d'→j≠i→d'≠d:=fun d hd j d' hj hd' hne e=>hne (Qm0 j hj i hi (by rw[hd',hd,e]) (by rw[hd'];simp))
  have kp:∀ s,(∀ i,i<15→scD i≠some s)→a.tmps.getD s undef=a0.tmps.getD s undef:=hI.kept
  have hw:S w:=hI.world.1
  have k2:=hI.world.2.1
  have ex0:=hI.world.2
  have go:∀ {d:Nat}{v:Value}{w':World},scD i=some d→Bw w w'→S w'→((l 4 || 4==i)=false→w'.heap.size=g)→scF cb n pc f1 f2 g pa dd A1 A2 C1 K V i v w'→Inv 15 scD a0 (fun l a w=>S w∧Qbf 15 scD a0 l a∧(l 4=false→w.heap.size=g)) (fun _=>scF cb n pc f1 f2 g pa dd A1 A2 C1 K V) (fun j=>l j || j==i) (a.put (some d) v) w':=by
   intro d v w' hD hb hS' hX hF
   exact hI.put hi hD (Nat.lt_of_lt_of_le (QmM i hi d hD) hs) (inj d hD) ⟨hS',k2.put hD (by rw[hI.size];exact Nat.lt_of_lt_of_le (QmM i hi d hD) hs) hi,hX⟩ hF (fun j u _ _ _ hf=>Qkw hf hb)
  rcases l15 (show i<15 by omega) with rfl|rfl|rfl|rfl|rfl|rfl|rfl|rfl|rfl|rfl|rfl|rfl|rfl|rfl|rfl
  ·obtain⟨e2,e3,e4,dp⟩:=o0.at_ ho hdep
   have U2:=(kp 2 (by decide)).trans u2
   exact wVa (v:=.slice pa n pc) (w':=w) ho e4 (by simp[execOp,e3,ev,evc,U2]) (by rw[e2];exact go rfl bR hw (fun e=>ex0.2 (by simpa using e)) rfl)
  ·obtain⟨e2,e3,e4,dp⟩:=o1.at_ ho hdep
   have U19:=(kp 19 (by decide)).trans u19
   exact wVa (v:=I4 f1) (w':=w) ho e4 (by simp[execOp,e3,ev,evc,U19]) (by rw[e2];exact go rfl bR hw (fun e=>ex0.2 (by simpa using e)) rfl)
  ·obtain⟨e2,e3,e4,dp⟩:=o2.at_ ho hdep
   have U12:=(kp 12 (by decide)).trans u12
   exact wVa (v:=Pt cb) (w':=w) ho e4 (by simp[execOp,e3,ev,evc,U12,x2 w]) (by rw[e2];exact go rfl bR hw (fun e=>ex0.2 (by simpa using e)) rfl)
  ·obtain⟨e2,e3,e4,dp⟩:=o3.at_ ho hdep
   have V2:tm a 78=_:=hI.vl dp 2 78 rfl rfl
   exact wVa (v:=I4 dd) (w':=w) ho e4 (by simp[execOp,e3,ev,evc,V2,x3 w hw]) (by rw[e2];exact go rfl bR hw (fun e=>ex0.2 (by simpa using e)) rfl)
  ·obtain⟨e2,e3,e4,dp⟩:=o4.at_ ho hdep
   have V0:tm a 76=_:=hI.vl dp 0 76 rfl rfl
   have V1:tm a 77=_:=hI.vl dp 1 77 rfl rfl
   have V3:tm a 79=_:=hI.vl dp 3 79 rfl rfl
   refine wCa (f:=61) (args:=#[.slice pa n pc,I4 f1,I4 dd]) ho e4 (by simp[execOp,e3,resolve,invoke,Deferred.ofValue,r61,ev,evf,evc,V0,V1,V3]) ((x4 w hw (ex0.2 hl)).mono ?_)
   rintro e W' ⟨rfl,ho6,hb6,hs6⟩
   refine⟨_,rfl,?_⟩
   rw[e2]
   exact go rfl hb6 hs6 (fun e=>by simp at e) ⟨rfl,ho6⟩
  ·obtain⟨e2,e3,e4,dp⟩:=o5.at_ ho hdep
   have U2:=(kp 2 (by decide)).trans u2
   exact wVa (v:=.slice pa n pc) (w':=w) ho e4 (by simp[execOp,e3,ev,evc,U2]) (by rw[e2];exact go rfl bR hw (fun e=>ex0.2 (by simpa using e)) rfl)
  ·obtain⟨e2,e3,e4,dp⟩:=o6.at_ ho hdep
   have U19:=(kp 19 (by decide)).trans u19
   exact wVa (v:=I4 f1) (w':=w) ho e4 (by simp[execOp,e3,ev,evc,U19]) (by rw[e2];exact go rfl bR hw (fun e=>ex0.2 (by simpa using e)) rfl)
  ·obtain⟨e2,e3,e4,dp⟩:=o7.at_ ho hdep
   have U12:=(kp 12 (by decide)).trans u12
   exact wVa (v:=Pt cb) (w':=w) ho e4 (by simp[execOp,e3,ev,evc,U12,x7 w]) (by rw[e2];exact go rfl bR hw (fun e=>ex0.2 (by simpa using e)) rfl)
  ·obtain⟨e2,e3,e4,dp⟩:=o8.at_ ho hdep
   have V7:tm a 83=_:=hI.vl dp 7 83 rfl rfl
   exact wVa (v:=I4 dd) (w':=w) ho e4 (by simp[execOp,e3,ev,evc,V7,x8 w hw]) (by rw[e2];exact go rfl bR hw (fun e=>ex0.2 (by simpa using e)) rfl)
  ·obtain⟨e2,e3,e4,dp⟩:=o9.at_ ho hdep
   have V6:tm a 82=_:=hI.vl dp 6 82 rfl rfl
   have V8:tm a 84=_:=hI.vl dp 8 84 rfl rfl
   exact wVa (v:=I4 f2) (w':=w) ho e4 (by simp[execOp,e3,ev,evc,V6,V8,x9 w,eqGuard]) (by rw[e2];exact go rfl bR hw (fun e=>ex0.2 (by simpa using e)) rfl)
  ·obtain⟨e2,e3,e4,dp⟩:=o10.at_ ho hdep
   have U12:=(kp 12 (by decide)).trans u12
   exact wVa (v:=Pt cb) (w':=w) ho e4 (by simp[execOp,e3,ev,evc,U12,x10 w]) (by rw[e2];exact go rfl bR hw (fun e=>ex0.2 (by simpa using e)) rfl)
  ·obtain⟨e2,e3,e4,dp⟩:=o11.at_ ho hdep
   have V10:tm a 86=_:=hI.vl dp 10 86 rfl rfl
   exact wVa (v:=I4 dd) (w':=w) ho e4 (by simp[execOp,e3,ev,evc,V10,x11 w hw]) (by rw[e2];exact go rfl bR hw (fun e=>ex0.2 (by simpa using e)) rfl)
  ·obtain⟨e2,e3,e4,dp⟩:=o12.at_ ho hdep
   obtain⟨V4,f4⟩:a.tmps.getD 80 undef=.slice (some ⟨g,0,none⟩) n (n+1)∧Qab g w (.slice (some ⟨g,0,none⟩) n (n+1)) n A1 C1 K:=hI.vl dp 4 80 rfl rfl
   have V5:tm a 81=_:=hI.vl dp 5 81 rfl rfl
   have V9:tm a 85=_:=hI.vl dp 9 85 rfl rfl
   have V11:tm a 87=_:=hI.vl dp 11 87 rfl rfl
   refine wCa (f:=61) (args:=#[.slice pa n pc,I4 f2,I4 dd]) ho e4 (by simp[execOp,e3,resolve,invoke,Deferred.ofValue,r61,ev,evf,evc,V4,V5,V9,V11]) ((x12 w hw (f4.own.lt g rfl).2).mono ?_)
   rintro e W' ⟨b,rfl,hz6,ho6,hb6,hs6⟩
   refine⟨_,rfl,?_⟩
   rw[e2]
   exact go rfl hb6 hs6 (fun e=>by rw[dp 4 (by decide)] at e;simp at e) ⟨b,rfl,hz6,ho6⟩
  ·obtain⟨e2,e3,e4,dp⟩:=o13.at_ ho hdep
   obtain⟨V4,f4⟩:a.tmps.getD 80 undef=.slice (some ⟨g,0,none⟩) n (n+1)∧Qab g w (.slice (some ⟨g,0,none⟩) n (n+1)) n A1 C1 K:=hI.vl dp 4 80 rfl rfl
   exact wVa (v:=.slice (some ⟨g,0,none⟩) n (n+1)) (w':=w) ho e4 (by simp[execOp,e3,ev,evc,V4]) (by rw[e2];exact go rfl bR hw (fun e=>ex0.2 (by simpa using e)) ⟨rfl,f4⟩)
  ·obtain⟨e2,e3,e4,dp⟩:=o14.at_ ho hdep
   obtain⟨b12,V12,z12,f12⟩:=hI.vl dp 12 88 rfl rfl
   exact wVa (v:=.slice (some ⟨b12,0,none⟩) n (n+1)) (w':=w) ho e4 (by simp[execOp,e3,ev,evc,V12]) (by rw[e2];exact go rfl bR hw (fun e=>ex0.2 (by simpa using e)) ⟨_,rfl,z12,f12⟩)
 ·intro l a w hall hI
  have all:∀ j,j<15→l j=true:=fun j hj=>hall j (by rw[hsz];exact hj)
  exact fin a w hI.size hI.defers hI.kept hI.world.1 (fun i d hi hD=>hI.val i d hi hD (all i hi))
section
def Qdo (lo hi:Nat)(w:World)(E L N O:SL)(Y U D:Nat→Nat→SL)(m:ModV):Prop :=
 ∀ w',(∀ p v,w.cell? p=some v→lo≤p.block→p.block<hi→w'.cell? p=some v)→Qad w' E L N O Y U D m
theorem NewM.within {base:Nat}{w:World}{E L N O:SL}{Y U D:Nat→Nat→SL}{m:ModV}(h:NewM base w E L N O Y U D m):Qdo base w.heap.size w E L N O Y U D m :=
 fun w' hc=>h w' fun p v hp hle=>hc p v hp hle (World.block_lt_of_cell? w _ hp)
theorem Qdo.at {lo hi:Nat}{w:World}{E L N O:SL}{Y U D:Nat→Nat→SL}{m:ModV}(h:Qdo lo hi w E L N O Y U D m):Qad w E L N O Y U D m:=h w fun _ _ hp _ _=>hp
theorem Qdo.below {lo hi:Nat}{w w':World}{E L N O:SL}{Y U D:Nat→Nat→SL}{m:ModV}(h:Qdo lo hi w E L N O Y U D m)(hb:Bw w w'):Qdo lo hi w' E L N O Y U D m :=
 fun w'' hc=>h w'' fun p v hp h1 h2=>hc p v ((hb.cell (World.block_lt_of_cell? w _ hp)).trans hp) h1 h2
theorem Qdo.only {lo hi b : Nat} {w w' : World} {E L N O : SL} {Y U D : Nat → Nat → SL} {m : ModV} (h : Qdo lo hi w E L N O Y U D m) (o : Only b w w') (hb : b < lo ∨ hi ≤ b) : Qdo lo hi w' E L N O Y U D m :=
  fun w'' hc => h w'' fun p v hp h1 h2 => hc p v (o.cell hp (fun e => by have e' : p.block = b := by simpa using e
                                                                         omega)) h1 h2
def AdIn (lo hi:Nat)(w:World)(L:SL)(Y:Nat→Nat→SL)(m:AdV):Prop :=
 ∀ w',(∀ p v,w.cell? p=some v→lo≤p.block→p.block<hi→w'.cell? p=some v)→AdAt w' L Y m
theorem NewA.within {base:Nat}{w:World}{L:SL}{Y:Nat→Nat→SL}{m:AdV}(h:NewA base w L Y m):AdIn base w.heap.size w L Y m :=
 fun w' hc=>h w' fun p v hp hle=>hc p v hp hle (World.block_lt_of_cell? w _ hp)
theorem AdIn.below {lo hi:Nat}{w w':World}{L:SL}{Y:Nat→Nat→SL}{m:AdV}(h:AdIn lo hi w L Y m)(hb:Bw w w'):AdIn lo hi w' L Y m :=
 fun w'' hc=>h w'' fun p v hp h1 h2=>hc p v ((hb.cell (World.block_lt_of_cell? w _ hp)).trans hp) h1 h2
theorem AdIn.only {lo hi b : Nat} {w w' : World} {L : SL} {Y : Nat → Nat → SL} {m : AdV} (h : AdIn lo hi w L Y m) (o : Only b w w') (hb : b < lo ∨ hi ≤ b) : AdIn lo hi w' L Y m :=
  fun w'' hc => h w'' fun p v hp h1 h2 => hc p v (o.cell hp (fun e => by have e' : p.block = b := by simpa using e
                                                                         omega)) h1 h2
section
variable {M:Md}{g:Nat}{c p q s:Bool}{v v1 v2:Value}{w w':World}
end
theorem QhQ (w:World):(Instr.alloc 27 true (.tuple #[])).run Tryz.prog w=.ok (Pt w.heap.size) (w.alloc (.cells z12 27)):=by go_simp
theorem QhO (w:World):(Instr.alloc 30 true (.tuple #[])).run Tryz.prog w=.ok (Pt w.heap.size) (w.alloc (.cells z3 30)):=by go_simp
theorem QhJ {w:World}{b:Nat}(q:Blk 27 w b z12)(M:Md)(E L N O:SL):∃ w',(Instr.storeAt 27 (Pt b) (M.ag E L N O)).run Tryz.prog w=.ok () w'∧Blk 27 w' b (M.mc E L N O)∧Only b w w'∧w'.heap.size=w.heap.size:=by
 obtain⟨c0,c1,c2,c3,c4,c5,c6,c7,c8,c9,c10,c11⟩:=q.c12
 obtain⟨o0,o1,o2,o3,o4,o5,o6,o7,o8,o9,o10,o11⟩:=q.o12
 obtain⟨W2,eW,q2,only,hz⟩:=Qe8 q (I4 M.d) (I4 M.h) (I4 M.l) (I4 M.v) (I4 M.u) (I4 M.x) (I4 M.t) (I4 M.n) (E.w) (L.w) (N.w) (O.w)
 exact⟨W2,by rw[←eW];go_simp,q2,only,hz⟩
theorem QhI {w:World}{b:Nat}(q:Blk 30 w b z3)(M:Md)(La:SL):∃ w',(Instr.storeAt 30 (Pt b) (M.ad La)).run Tryz.prog w=.ok () w'∧Blk 30 w' b (M.rc La)∧Only b w w'∧w'.heap.size=w.heap.size:=by
 obtain⟨c0,c1,c2⟩:=q.c3
 obtain⟨o0,o1,o2,-⟩:=q.o12
 obtain⟨W2,eW,q2,only,hz⟩:=set3 q (I4 M.r) (I4 M.s) (La.w)
 exact⟨W2,by rw[←eW];go_simp,q2,only,hz⟩
end
section
structure Qj1 {T:Type} (I:T→Nat→Nat→World→Prop):Prop where
 below:∀ {t lo hi}{w w':World},I t lo hi w→Bw w w'→I t lo hi w'
 only:∀ {t lo hi b}{w w':World},I t lo hi w→Only b w w'→(b<lo∨hi≤b)→I t lo hi w'
def CX {T:Type}(V:T→Value)(cs:T→Array Value)(I:T→Nat→Nat→World→Prop)(ty:TypeId)(ee:Int)(g:Nat)(c m x p s:Bool)(vc vm vx v1:Value)(w:World):Prop :=
 c=true→∃ t lo hi,vc=.tuple #[V t,I4 ee]∧(m=true→vm=.tuple #[V t,I4 ee])∧(x=true→vx=V t)∧g≤lo∧hi≤w.heap.size∧I t lo hi w∧(p=true→∀ b,v1=Pt b→b<lo∨hi≤b)∧(s=true→∃ b,v1=Pt b∧g≤b∧Blk ty w b (cs t))
section
variable {T:Type}{V:T→Value}{cs:T→Array Value}{I:T→Nat→Nat→World→Prop}{ty:TypeId}{ee:Int}{g:Nat}{c m x p s:Bool}{vc vm vx v1:Value}{w w':World}
theorem CX.below (L:Qj1 I)(h:CX V cs I ty ee g c m x p s vc vm vx v1 w)(hb:Bw w w'):CX V cs I ty ee g c m x p s vc vm vx v1 w':=fun hc=>by
 obtain⟨t,lo,hi,h1,h2,h3,h4,h5,h6,h7,h8⟩:=h hc
 exact⟨t,lo,hi,h1,h2,h3,h4,Nat.le_trans h5 hb.size,L.below h6 hb,h7,fun e=>(h8 e).elim fun b hb'=>⟨b,hb'.1,hb'.2.1,hb'.2.2.kept hb⟩⟩
theorem CX.lay (L:Qj1 I)(h:CX V cs I ty ee g c m x p false vc vm vx v1 w)(o:Obj):CX V cs I ty ee g c m x true false vc vm vx (Pt w.heap.size) (w.alloc o):=fun hc=>by
 have hb:=bNw (bS w) o
 obtain⟨t,lo,hi,h1,h2,h3,h4,h5,h6,h7,h8⟩:=h hc
 exact⟨t,lo,hi,h1,h2,h3,h4,Nat.le_trans h5 hb.size,L.below h6 hb,fun _ b e=>by simp at e;omega,fun e=>by cases e⟩
theorem CX.moved (h:CX V cs I ty ee g true m x p s vc vm vx v1 w):CX V cs I ty ee g true true x p s vc vc vx v1 w:=fun hc=>by
 obtain⟨t,lo,hi,h1,h2,h3,h4,h5,h6,h7,h8⟩:=h hc
 exact⟨t,lo,hi,h1,fun _=>h1,h3,h4,h5,h6,h7,h8⟩
end
end
def md1D (i:Nat):Option Nat:=match i with|0=>some 9|1=>some 10|2=>some 11|3=>some 12|4=>some 13|5=>some 14|6=>some 8|7=>some 15|8=>some 16|9=>some 6|11=>some 7|_=>none
theorem Qmj:∀ i,i<12→∀ j,j<12→md1D i=md1D j→md1D i≠none→i=j:=by decide
def md1F (cfD cfH cfL cfV cfU cfX cfT cfN sz sd9:Int)(nn cb:Nat)(zs:List Int)(ee:Int)(g9:Nat)(z9:Array Value)(k:Nat→Bool)(j:Nat)(q:Value)(w:World):Prop:=match j with
 | 0=>q=.agg #[I4 cfD,I4 cfH,I4 cfL,I4 cfV,I4 cfU,I4 cfX,I4 cfT,I4 cfN]
 | 1=>q=.agg #[I4 cfD,I4 cfH,I4 cfL,I4 cfV,I4 cfU,I4 cfX,I4 cfT,I4 cfN]
 | 2=>q=I4 sz
 | 3=>q=.int .u64 sd9
 | 4=>k 10=false→(∃ ya yc,q=.slice ya nn yc∧IsS w ⟨ya,nn,yc⟩ zs)
 | 5=>True
 | 6=>True
 | 7=>True
 | 8=>q=I4 ee
 | 9=>∃ b,q=Pt b∧g9≤b∧b<w.heap.size∧(k 10=false→Blk 27 w b z9)
 | 10=>True
 | 11=>q=I4 ee
 | _=>True
theorem Qjw {id:Nat}{ops:Array Oper}{Q:Exit→Act→World→Prop}{a0:Act}{w0:World}{T:Type}{V:T→Value}{cs:T→Array Value}{I:T→Nat→Nat→World→Prop}(hI9:Qj1 I)(cfD cfH cfL cfV cfU cfX cfT cfN sz sd9:Int)(nn cb:Nat)(zs:List Int)(ee:Int)(z9:Array Value)(hlow:lowB ops=true)(hsz:ops.size=12)
  (oo:OpS ops 0 9 (.load 23 (.tmp 2)) []∧OpS ops 1 10 (.load 23 (.tmp 2)) []∧OpS ops 2 11 (.call { callee:=.value (.func 41),args:=#[.tmp 10],argTypes:=#[23] }) [1]∧OpS ops 3 12 (.move (.tmp 1)) []∧OpS ops 4 13 (.call { callee:=.value (.func 40),args:=#[.tmp 11,.tmp 12],argTypes:=#[3,44] }) [2,3]∧OpS ops 5 14 (.call { callee:=.value (.func 39),args:=#[.tmp 9,.tmp 13],argTypes:=#[23,24] }) [0,4]∧OpS ops 6 8 (.move (.tmp 14)) [5]∧OpS ops 7 15 (.extract (.tmp 8) 0) [6]∧OpS ops 8 16 (.extract (.tmp 8) 1) [6]∧OpS ops 9 6 (.alloc 27) []∧OpIn ops 10 none (.store 27 (.tmp 6) (.tmp 15)) none [7,9]∧OpS ops 11 7 (.assign (.tmp 16)) [8])
  (x0:∀ w,Bw w0 w→(Instr.loadAt 23 (Pt cb)).run Tryz.prog w=.ok (.agg #[I4 cfD,I4 cfH,I4 cfL,I4 cfV,I4 cfU,I4 cfX,I4 cfT,I4 cfN]) w)
  (x1:∀ w,Bw w0 w→(Instr.loadAt 23 (Pt cb)).run Tryz.prog w=.ok (.agg #[I4 cfD,I4 cfH,I4 cfL,I4 cfV,I4 cfU,I4 cfX,I4 cfT,I4 cfN]) w)
  (x2:∀ w,Bw w0 w→Calls Tryz.prog 41 #[.agg #[I4 cfD,I4 cfH,I4 cfL,I4 cfV,I4 cfU,I4 cfX,I4 cfT,I4 cfN]] w fun e w'=>e=.returned (I4 sz)∧Bw w w')
  (x4:∀ w,Bw w0 w→Calls Tryz.prog 40 #[I4 sz,.int .u64 sd9] w fun e w'=>(∃ a c,e=.returned (.slice a nn c)∧IsS w' ⟨a,nn,c⟩ zs)∧Bw w w')
  (x5:∀ w ya yc,Bw w0 w→IsS w ⟨ya,nn,yc⟩ zs→Calls Tryz.prog 39 #[.agg #[I4 cfD,I4 cfH,I4 cfL,I4 cfV,I4 cfU,I4 cfX,I4 cfT,I4 cfN],.slice ya nn yc] w fun e w'=>∃ t,e=.returned (.tuple #[V t,I4 ee])∧I t w.heap.size w'.heap.size w'∧Bw w w')
  (u1:a0.tmps.getD 1 undef=.int .u64 sd9)
  (u2:a0.tmps.getD 2 undef=Pt cb)
  (xA:∀ w,(Instr.alloc 27 true (.tuple #[])).run Tryz.prog w=.ok (Pt w.heap.size) (w.alloc (.cells z9 27)))
  (xS:∀ w b t,Blk 27 w b z9→∃ w',(Instr.storeAt 27 (Pt b) (V t)).run Tryz.prog w=.ok () w'∧Blk 27 w' b (cs t)∧Only b w w'∧w'.heap.size=w.heap.size)
  (hs:20≤a0.tmps.size)
  (fin:∀ a w b t lo hi,a.tmps.size=a0.tmps.size→a.defers=a0.defers→(∀ s,(∀ i,i<12→md1D i≠some s)→a.tmps.getD s undef=a0.tmps.getD s undef)→tm a 6=Pt b→tm a 7=I4 ee→Bw w0 w→w0.heap.size≤b→w0.heap.size≤lo→hi≤w.heap.size→I t lo hi w→Blk 27 w b (cs t)→Q .normal a w):(Code.region id ops true).wp Tryz.prog Q a0 w0:=by
 obtain⟨o0,o1,o2,o3,o4,o5,o6,o7,o8,o9,o10,o11⟩:=oo
 have r39:∀ args w,(callFunc 39 args).run Tryz.prog w=.ok (.enter 39 args) w:=eNo Tryz.func39 (by kernel_rfl) rfl
 have r40:∀ args w,(callFunc 40 args).run Tryz.prog w=.ok (.enter 40 args) w:=eNo Tryz.func40 (by kernel_rfl) rfl
 have r41:∀ args w,(callFunc 41 args).run Tryz.prog w=.ok (.enter 41 args) w:=eNo Tryz.func41 (by kernel_rfl) rfl
 refine wRi (by kernel_rfl) hlow (Inv 12 md1D a0 (fun l a w=>Bw w0 w∧Qbf 12 md1D a0 l a∧CX V cs I 27 ee w0.heap.size (l 5) (l 6) (l 7) (l 9) (l 10) (a.tmps.getD 14 undef) (a.tmps.getD 8 undef) (a.tmps.getD 15 undef) (a.tmps.getD 6 undef) w) (md1F cfD cfH cfL cfV cfU cfX cfT cfN sz sd9 nn cb zs ee w0.heap.size z9)) (Inv.start ⟨bR.drew,QaB _ _ _,(fun e=>by cases e)⟩) ?_ ?_
 ·intro l i o a w ho hl hcl hdep hI
  have hi:i<12:=by rw[←hsz];exact (Array.getElem?_eq_some_iff.1 ho).1
  have ev:∀ (s:Nat),a.eval (.tmp s)=a.tmps.getD s undef:=fun _=>rfl
  have evf:∀ f,a.eval (.func f)=.func (.func f) #[] #[]:=fun _=>rfl
  have evc:∀ c:Value,a.eval (.const c)=c:=fun _=>rfl
  have inj:∀ d,md1D i=some d→∀ j d',j<12→md1D j=some d'→j≠i→d'≠d:=fun d hd j d' hj hd' hne e=>hne (Qmj j hj i hi (by rw[hd',hd,e]) (by rw[hd'];simp))
  have kp:∀ s,(∀ i,i<12→md1D i≠some s)→a.tmps.getD s undef=a0.tmps.getD s undef:=hI.kept
  obtain⟨hw,k2,hc⟩:Bw w0 w∧Qbf 12 md1D a0 l a∧CX V cs I 27 ee w0.heap.size (l 5) (l 6) (l 7) (l 9) (l 10) (a.tmps.getD 14 undef) (a.tmps.getD 8 undef) (a.tmps.getD 15 undef) (a.tmps.getD 6 undef) w:=hI.world
  have oth:∀ j,j≠i→(l j || j==i)=l j:=fun j hj=>by rw[show (j==i)=false by simp[hj],Bool.or_false]
  have sam:(l i || i==i)=true:=by simp
  have gp:∀ (d:Nat) (v:Value) (s:Nat),d<20→(a.put (some d) v).tmps.getD s undef=if s=d then v else a.tmps.getD s undef:=fun d v s hd=>Qby a d v s (by rw[hI.size];exact Nat.lt_of_lt_of_le hd hs)
  have keep:∀ {w':World},i≠10→Bw w w'→∀ j u,j<12→l j=true→j≠i→md1F cfD cfH cfL cfV cfU cfX cfT cfN sz sd9 nn cb zs ee w0.heap.size z9 l j u w→md1F cfD cfH cfL cfV cfU cfX cfT cfN sz sd9 nn cb zs ee w0.heap.size z9 (fun j=>l j || j==i) j u w':=by
   intro w' n6 hb j u hj _ _ hf
   unfold md1F at hf ⊢
   dsimp only
   rw[oth 10 (fun e=>n6 e.symm)]
   rcases l12 (show j<12 by omega) with rfl|rfl|rfl|rfl|rfl|rfl|rfl|rfl|rfl|rfl|rfl|rfl
   ·exact hf
   ·exact hf
   ·exact hf
   ·exact hf
   ·intro e9;have h:=hf e9;obtain⟨ya,yc,h1,h2⟩:=h;exact⟨ya,yc,h1,h2.below hb⟩
   ·exact hf
   ·exact hf
   ·exact hf
   ·exact hf
   ·obtain⟨b,q1,q2,q3,q4⟩:=hf;exact⟨b,q1,q2,Nat.lt_of_lt_of_le q3 hb.size,fun e=>(q4 e).kept hb⟩
   ·exact hf
   ·exact hf
  rcases l12 (show i<12 by omega) with rfl|rfl|rfl|rfl|rfl|rfl|rfl|rfl|rfl|rfl|rfl|rfl
  ·obtain⟨e2,e3,e4,dp⟩:=o0.at_ ho hdep
   have n9:l 10=false:=by
    cases e0:l 10 with
    | false=>rfl
    | true =>
     have e0':=hcl.dep' o10 e0 7 (by decide)
     have e1':=hcl.dep' o7 e0' 6 (by decide)
     have e2':=hcl.dep' o6 e1' 5 (by decide)
     have e3':=hcl.dep' o5 e2' 0 (by decide)
     rw[hl] at e3'
     cases e3'
   have U2:=(kp 2 (by decide)).trans u2
   refine wVa (v:=.agg #[I4 cfD,I4 cfH,I4 cfL,I4 cfV,I4 cfU,I4 cfX,I4 cfT,I4 cfN]) (w':=w) ho e4 (by simp[execOp,e3,ev,evc,U2,x0 w hw]) ?_
   rw[e2]
   refine hI.put (by decide) (d:=9) rfl (Nat.lt_of_lt_of_le (by decide) hs) (inj 9 rfl) ?_ (rfl) (keep (by decide) bR)
   refine⟨hw,k2.put rfl (by rw[hI.size];exact Nat.lt_of_lt_of_le (by decide) hs) (by decide),?_⟩
   dsimp only
   rw[gp 9 _ 14 (by decide),gp 9 _ 8 (by decide),gp 9 _ 15 (by decide),gp 9 _ 6 (by decide)]
   simp only[oth 5 (by decide),oth 6 (by decide),oth 7 (by decide),oth 9 (by decide),oth 10 (by decide)]
   exact hc
  ·obtain⟨e2,e3,e4,dp⟩:=o1.at_ ho hdep
   have n9:l 10=false:=by
    cases e0:l 10 with
    | false=>rfl
    | true =>
     have e0':=hcl.dep' o10 e0 7 (by decide)
     have e1':=hcl.dep' o7 e0' 6 (by decide)
     have e2':=hcl.dep' o6 e1' 5 (by decide)
     have e3':=hcl.dep' o5 e2' 4 (by decide)
     have e4':=hcl.dep' o4 e3' 2 (by decide)
     have e5':=hcl.dep' o2 e4' 1 (by decide)
     rw[hl] at e5'
     cases e5'
   have U2:=(kp 2 (by decide)).trans u2
   refine wVa (v:=.agg #[I4 cfD,I4 cfH,I4 cfL,I4 cfV,I4 cfU,I4 cfX,I4 cfT,I4 cfN]) (w':=w) ho e4 (by simp[execOp,e3,ev,evc,U2,x1 w hw]) ?_
   rw[e2]
   refine hI.put (by decide) (d:=10) rfl (Nat.lt_of_lt_of_le (by decide) hs) (inj 10 rfl) ?_ (rfl) (keep (by decide) bR)
   refine⟨hw,k2.put rfl (by rw[hI.size];exact Nat.lt_of_lt_of_le (by decide) hs) (by decide),?_⟩
   dsimp only
   rw[gp 10 _ 14 (by decide),gp 10 _ 8 (by decide),gp 10 _ 15 (by decide),gp 10 _ 6 (by decide)]
   simp only[oth 5 (by decide),oth 6 (by decide),oth 7 (by decide),oth 9 (by decide),oth 10 (by decide)]
   exact hc
  ·obtain⟨e2,e3,e4,dp⟩:=o2.at_ ho hdep
   have n9:l 10=false:=by
    cases e0:l 10 with
    | false=>rfl
    | true =>
     have e0':=hcl.dep' o10 e0 7 (by decide)
     have e1':=hcl.dep' o7 e0' 6 (by decide)
     have e2':=hcl.dep' o6 e1' 5 (by decide)
     have e3':=hcl.dep' o5 e2' 4 (by decide)
     have e4':=hcl.dep' o4 e3' 2 (by decide)
     rw[hl] at e4'
     cases e4'
   have V1:tm a 10=_:=hI.vl dp 1 10 rfl rfl
   refine wCa (f:=41) (args:=#[.agg #[I4 cfD,I4 cfH,I4 cfL,I4 cfV,I4 cfU,I4 cfX,I4 cfT,I4 cfN]]) ho e4 (by simp[execOp,e3,resolve,invoke,Deferred.ofValue,r41,ev,evf,evc,V1]) ((x2 w hw).mono ?_)
   rintro e W ⟨rfl,hb6⟩
   refine⟨_,rfl,?_⟩
   rw[e2]
   refine hI.put (by decide) (d:=11) rfl (Nat.lt_of_lt_of_le (by decide) hs) (inj 11 rfl) ?_ (rfl) (keep (by decide) (hb6))
   refine⟨bTn hw (hb6),k2.put rfl (by rw[hI.size];exact Nat.lt_of_lt_of_le (by decide) hs) (by decide),?_⟩
   dsimp only
   rw[gp 11 _ 14 (by decide),gp 11 _ 8 (by decide),gp 11 _ 15 (by decide),gp 11 _ 6 (by decide)]
   simp only[oth 5 (by decide),oth 6 (by decide),oth 7 (by decide),oth 9 (by decide),oth 10 (by decide)]
   exact hc.below hI9 hb6
  ·obtain⟨e2,e3,e4,dp⟩:=o3.at_ ho hdep
   have n9:l 10=false:=by
    cases e0:l 10 with
    | false=>rfl
    | true =>
     have e0':=hcl.dep' o10 e0 7 (by decide)
     have e1':=hcl.dep' o7 e0' 6 (by decide)
     have e2':=hcl.dep' o6 e1' 5 (by decide)
     have e3':=hcl.dep' o5 e2' 4 (by decide)
     have e4':=hcl.dep' o4 e3' 3 (by decide)
     rw[hl] at e4'
     cases e4'
   have U1:=(kp 1 (by decide)).trans u1
   refine wVa (v:=.int .u64 sd9) (w':=w) ho e4 (by simp[execOp,e3,ev,evc,U1]) ?_
   rw[e2]
   refine hI.put (by decide) (d:=12) rfl (Nat.lt_of_lt_of_le (by decide) hs) (inj 12 rfl) ?_ (rfl) (keep (by decide) bR)
   refine⟨hw,k2.put rfl (by rw[hI.size];exact Nat.lt_of_lt_of_le (by decide) hs) (by decide),?_⟩
   dsimp only
   rw[gp 12 _ 14 (by decide),gp 12 _ 8 (by decide),gp 12 _ 15 (by decide),gp 12 _ 6 (by decide)]
   simp only[oth 5 (by decide),oth 6 (by decide),oth 7 (by decide),oth 9 (by decide),oth 10 (by decide)]
   exact hc
  ·obtain⟨e2,e3,e4,dp⟩:=o4.at_ ho hdep
   have n9:l 10=false:=by
    cases e0:l 10 with
    | false=>rfl
    | true =>
     have e0':=hcl.dep' o10 e0 7 (by decide)
     have e1':=hcl.dep' o7 e0' 6 (by decide)
     have e2':=hcl.dep' o6 e1' 5 (by decide)
     have e3':=hcl.dep' o5 e2' 4 (by decide)
     rw[hl] at e3'
     cases e3'
   have V2:tm a 11=_:=hI.vl dp 2 11 rfl rfl
   have V3:tm a 12=_:=hI.vl dp 3 12 rfl rfl
   refine wCa (f:=40) (args:=#[I4 sz,.int .u64 sd9]) ho e4 (by simp[execOp,e3,resolve,invoke,Deferred.ofValue,r40,ev,evf,evc,V2,V3]) ((x4 w hw).mono ?_)
   rintro e W ⟨⟨a6,c6,rfl,f6⟩,hb6⟩
   refine⟨_,rfl,?_⟩
   rw[e2]
   refine hI.put (by decide) (d:=13) rfl (Nat.lt_of_lt_of_le (by decide) hs) (inj 13 rfl) ?_ (fun _=>⟨a6,c6,rfl,f6⟩) (keep (by decide) (hb6))
   refine⟨bTn hw (hb6),k2.put rfl (by rw[hI.size];exact Nat.lt_of_lt_of_le (by decide) hs) (by decide),?_⟩
   dsimp only
   rw[gp 13 _ 14 (by decide),gp 13 _ 8 (by decide),gp 13 _ 15 (by decide),gp 13 _ 6 (by decide)]
   simp only[oth 5 (by decide),oth 6 (by decide),oth 7 (by decide),oth 9 (by decide),oth 10 (by decide)]
   exact hc.below hI9 hb6
  ·obtain⟨e2,e3,e4,dp⟩:=o5.at_ ho hdep
   have n9:l 10=false:=by
    cases e0:l 10 with
    | false=>rfl
    | true =>
     have e0':=hcl.dep' o10 e0 7 (by decide)
     have e1':=hcl.dep' o7 e0' 6 (by decide)
     have e2':=hcl.dep' o6 e1' 5 (by decide)
     rw[hl] at e2'
     cases e2'
   have V0:tm a 9=_:=hI.vl dp 0 9 rfl rfl
   obtain⟨a4,c4,V4,f4⟩:∃ ya yc,a.tmps.getD 13 undef=.slice ya nn yc∧IsS w ⟨ya,nn,yc⟩ zs:=hI.vl dp 4 13 rfl rfl n9
   refine wCa (f:=39) (args:=#[.agg #[I4 cfD,I4 cfH,I4 cfL,I4 cfV,I4 cfU,I4 cfX,I4 cfT,I4 cfN],.slice a4 nn c4]) ho e4 (by simp[execOp,e3,resolve,invoke,Deferred.ofValue,r39,ev,evf,evc,V0,V4]) ((x5 w a4 c4 hw f4).mono ?_)
   rintro e W ⟨t,rfl,ht,hb⟩
   refine⟨_,rfl,?_⟩
   rw[e2]
   refine hI.put (by decide) (d:=14) rfl (Nat.lt_of_lt_of_le (by decide) hs) (inj 14 rfl) ?_ (trivial) (keep (by decide) (hb))
   refine⟨bTn hw (hb),k2.put rfl (by rw[hI.size];exact Nat.lt_of_lt_of_le (by decide) hs) (by decide),?_⟩
   dsimp only
   rw[gp 14 _ 14 (by decide),gp 14 _ 8 (by decide),gp 14 _ 15 (by decide),gp 14 _ 6 (by decide)]
   simp only[oth 6 (by decide),oth 7 (by decide),oth 9 (by decide),oth 10 (by decide),sam]
   exact fun _=>⟨t,w.heap.size,W.heap.size,rfl,(fun e9=>by
     have y:=hcl.dep' o6 e9 5 (by decide)
     rw[hl] at y
     cases y),(fun e9=>by
     have y:=hcl.dep' o6 (hcl.dep' o7 e9 6 (by decide)) 5 (by decide)
     rw[hl] at y
     cases y),hw.size,Nat.le_refl _,ht,(fun e9 b eb=>by
     obtain⟨b2,p1,p2,p3,p4⟩:∃ b,tm a 6=Pt b∧w0.heap.size≤b∧b<w.heap.size∧(l 10=false→Blk 27 w b z9):=hI.val 9 6 (by decide) rfl e9
     have:=p1.symm.trans eb
     simp at this
     omega),(fun e9=>by rw[n9] at e9;cases e9)⟩
  ·obtain⟨e2,e3,e4,dp⟩:=o6.at_ ho hdep
   have n9:l 10=false:=by
    cases e0:l 10 with
    | false=>rfl
    | true =>
     have e0':=hcl.dep' o10 e0 7 (by decide)
     have e1':=hcl.dep' o7 e0' 6 (by decide)
     rw[hl] at e1'
     cases e1'
   obtain⟨t,lo,hh,Vc,h2,h3,h4,h5,h6,h7,h8⟩:=hc (dp 5 (by decide))
   refine wVa (v:=.tuple #[V t,I4 ee]) (w':=w) ho e4 (by simp[execOp,e3,ev,evc,Vc]) ?_
   rw[e2]
   refine hI.put (by decide) (d:=8) rfl (Nat.lt_of_lt_of_le (by decide) hs) (inj 8 rfl) ?_ (trivial) (keep (by decide) bR)
   refine⟨hw,k2.put rfl (by rw[hI.size];exact Nat.lt_of_lt_of_le (by decide) hs) (by decide),?_⟩
   dsimp only
   rw[gp 8 _ 14 (by decide),gp 8 _ 8 (by decide),gp 8 _ 15 (by decide),gp 8 _ 6 (by decide)]
   simp only[oth 5 (by decide),oth 7 (by decide),oth 9 (by decide),oth 10 (by decide),sam]
   rw[dp 5 (by decide)] at hc ⊢
   rw[←Vc]
   exact hc.moved
  ·obtain⟨e2,e3,e4,dp⟩:=o7.at_ ho hdep
   have n9:l 10=false:=by
    cases e0:l 10 with
    | false=>rfl
    | true =>
     have e0':=hcl.dep' o10 e0 7 (by decide)
     rw[hl] at e0'
     cases e0'
   obtain⟨t,lo,hh,Vc,h2,h3,h4,h5,h6,h7,h8⟩:=hc (hcl.dep' o6 (dp 6 (by decide)) 5 (by decide))
   have Vm:=h2 (dp 6 (by decide))
   refine wVa (v:=V t) (w':=w) ho e4 (by simp[execOp,e3,ev,evc,Vm,Instr.extract]) ?_
   rw[e2]
   refine hI.put (by decide) (d:=15) rfl (Nat.lt_of_lt_of_le (by decide) hs) (inj 15 rfl) ?_ (trivial) (keep (by decide) bR)
   refine⟨hw,k2.put rfl (by rw[hI.size];exact Nat.lt_of_lt_of_le (by decide) hs) (by decide),?_⟩
   dsimp only
   rw[gp 15 _ 14 (by decide),gp 15 _ 8 (by decide),gp 15 _ 15 (by decide),gp 15 _ 6 (by decide)]
   simp only[oth 5 (by decide),oth 6 (by decide),oth 9 (by decide),oth 10 (by decide),sam]
   exact fun _=>⟨t,lo,hh,Vc,h2,fun _=>rfl,h4,h5,h6,h7,h8⟩
  ·obtain⟨e2,e3,e4,dp⟩:=o8.at_ ho hdep
   obtain⟨t,lo,hh,Vc,h2,h3,h4,h5,h6,h7,h8⟩:=hc (hcl.dep' o6 (dp 6 (by decide)) 5 (by decide))
   have Vm:=h2 (dp 6 (by decide))
   refine wVa (v:=I4 ee) (w':=w) ho e4 (by simp[execOp,e3,ev,evc,Vm,Instr.extract]) ?_
   rw[e2]
   refine hI.put (by decide) (d:=16) rfl (Nat.lt_of_lt_of_le (by decide) hs) (inj 16 rfl) ?_ (rfl) (keep (by decide) bR)
   refine⟨hw,k2.put rfl (by rw[hI.size];exact Nat.lt_of_lt_of_le (by decide) hs) (by decide),?_⟩
   dsimp only
   rw[gp 16 _ 14 (by decide),gp 16 _ 8 (by decide),gp 16 _ 15 (by decide),gp 16 _ 6 (by decide)]
   simp only[oth 5 (by decide),oth 6 (by decide),oth 7 (by decide),oth 9 (by decide),oth 10 (by decide)]
   exact hc
  ·obtain⟨e2,e3,e4,dp⟩:=o9.at_ ho hdep
   have n9:l 10=false:=by
    cases e0:l 10 with
    | false=>rfl
    | true =>
     have e0':=hcl.dep' o10 e0 9 (by decide)
     rw[hl] at e0'
     cases e0'
   have hb:=bNw (bS w) (.cells z9 27)
   refine wVa (v:=Pt w.heap.size) (w':=w.alloc (.cells z9 27)) ho e4 (by simp[execOp,e3,xA]) ?_
   rw[e2]
   refine hI.put (by decide) (d:=6) rfl (Nat.lt_of_lt_of_le (by decide) hs) (inj 6 rfl) ?_ (⟨w.heap.size,rfl,hw.size,by simp,fun _=>Blk.new 27 w _⟩) (keep (by decide) (hb))
   refine⟨bTn hw (hb),k2.put rfl (by rw[hI.size];exact Nat.lt_of_lt_of_le (by decide) hs) (by decide),?_⟩
   dsimp only
   rw[gp 6 _ 14 (by decide),gp 6 _ 8 (by decide),gp 6 _ 15 (by decide),gp 6 _ 6 (by decide)]
   simp only[oth 5 (by decide),oth 6 (by decide),oth 7 (by decide),oth 10 (by decide),sam]
   rw[n9] at hc ⊢
   exact hc.lay hI9 _
  ·obtain⟨e2,e3,e4,dp⟩:=o10.at_ ho hdep
   obtain⟨b,Va,gb,lb,q⟩:=hI.vl dp 9 6 rfl rfl
   replace q:=q hl
   obtain⟨t,lo,hh,Vc,h2,h3,h4,h5,h6,h7,h8⟩:=hc (hcl.dep' o6 (hcl.dep' o7 (dp 7 (by decide)) 6 (by decide)) 5 (by decide))
   have Vx:=h3 (dp 7 (by decide))
   obtain⟨w',r',q',on,hz⟩:=xS w b t q
   have hb9:Bw w0 w':=Only.below hw gb hw.size on
   refine wSk (w':=w') ho e4 (by simp[execOp,e3,ev,Va,Vx,r']) ?_
   rw[e2]
   refine Inv.none_' hI rfl ⟨hb9,fun s9 hs9=>k2 s9 (fun j hj hl9=>hs9 j hj (by simp[hl9])),?_⟩ (fun j dd hj hD hkj hne hf=>?_)
   ·dsimp only
    simp only[oth 5 (by decide),oth 6 (by decide),oth 7 (by decide),oth 9 (by decide),sam]
    exact fun _=>⟨t,lo,hh,Vc,h2,h3,h4,(by omega),hI9.only h6 on (h7 (dp 9 (by decide)) b Va),h7,fun _=>⟨b,Va,gb,q'⟩⟩
   ·unfold md1F at hf ⊢
    dsimp only
    rw[sam]
    rcases l12 (show j<12 by omega) with rfl|rfl|rfl|rfl|rfl|rfl|rfl|rfl|rfl|rfl|rfl|rfl
    ·exact hf
    ·exact hf
    ·exact hf
    ·exact hf
    ·intro e9;cases e9
    ·exact hf
    ·exact hf
    ·exact hf
    ·exact hf
    ·obtain⟨b2,p1,p2,p3,p4⟩:=hf;exact⟨b2,p1,p2,by omega,fun e=>by cases e⟩
    ·exact hf
    ·exact hf
  ·obtain⟨e2,e3,e4,dp⟩:=o11.at_ ho hdep
   have V9:tm a 16=_:=hI.vl dp 8 16 rfl rfl
   refine wVa (v:=I4 ee) (w':=w) ho e4 (by simp[execOp,e3,ev,evc,V9]) ?_
   rw[e2]
   refine hI.put (by decide) (d:=7) rfl (Nat.lt_of_lt_of_le (by decide) hs) (inj 7 rfl) ?_ (rfl) (keep (by decide) bR)
   refine⟨hw,k2.put rfl (by rw[hI.size];exact Nat.lt_of_lt_of_le (by decide) hs) (by decide),?_⟩
   dsimp only
   rw[gp 7 _ 14 (by decide),gp 7 _ 8 (by decide),gp 7 _ 15 (by decide),gp 7 _ 6 (by decide)]
   simp only[oth 5 (by decide),oth 6 (by decide),oth 7 (by decide),oth 9 (by decide),oth 10 (by decide)]
   exact hc
 ·intro l a w hall hI
  have all:∀ j,j<12→l j=true:=fun j hj=>hall j (by rw[hsz];exact hj)
  obtain⟨hw,k2,hc⟩:Bw w0 w∧Qbf 12 md1D a0 l a∧CX V cs I 27 ee w0.heap.size (l 5) (l 6) (l 7) (l 9) (l 10) (a.tmps.getD 14 undef) (a.tmps.getD 8 undef) (a.tmps.getD 15 undef) (a.tmps.getD 6 undef) w:=hI.world
  obtain⟨t,lo,hh,Vc,h2,h3,h4,h5,h6,h7,h8⟩:=hc (all 5 (by decide))
  obtain⟨b,y1,y2,y3⟩:=h8 (all 10 (by decide))
  exact fin a w b t lo hh hI.size hI.defers hI.kept y1 (hI.va all 11 7 rfl rfl) hw y2 h4 h5 h6 y3
end Go.Proofs.YthliomlmhfjhnaaGreat
