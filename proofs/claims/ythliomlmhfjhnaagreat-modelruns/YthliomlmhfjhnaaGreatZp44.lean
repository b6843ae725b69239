/- Texts put together. -/
import Derived.Test.YthliomlmhfjhnaaGreatZp42
import Derived.Test.YthliomlmhfjhnaaGreatZp43
import Derived.Deep.Cut
namespace Go.Proofs.YthliomlmhfjhnaaGreat
set_option maxRecDepth 20000
set_option maxHeartbeats 16000000
open Go.ChangeShapes Go.WideShapes Go.ChangeAt Go.RowKit
set_option linter.unusedVariables false
set_option linter.unusedSimpArgs false
theorem Qdw {P:Program}(w:World)(base:Nat)(t ty e:TypeId)(i:TypeInfo)(z:Value)(bytes:Nat)(ht:P.underlying t=some (.slice e))(hi:P.info? e=some i)(hz:i.zero=some z)
  (hsize:i.size=1) (hby:i.bytes=bytes) (hzs:z.cells.size=1) (v:Value) (n:Nat) (xs:List Value) (hown:w.ownsRow base e 1 v n xs)
  (ad:Addr) (m c:Nat) (news:List Value) (hl:news.length=m) (hnews:∀ j u,news[j]? = some u→w.cell? (ad.add j)=some u) (h1:∀ u∈news,u.oneCell'=true)
  (h63:n+m≤maxLen) (hbytes:(n+m)*bytes≤140737488355328) (hbase:base≤w.heap.size) :
  ∃ v' w',(Builtin.append_ #[t,t] ty #[v,.slice (some ad) m c]).run P w=.ok v' w'∧w'.ownsRow base e 1 v' (n+m) (xs++news)∧w.grownBy w' v.ownBlock∧Qe6 w v v':=by
 have weak:∀ {w':World}{v':Value}{cs:List Value},w'.ownsRow w.heap.size e 1 v' (n+m) cs→w'.ownsRow base e 1 v' (n+m) cs∧Qe6 w v v':=by
  intro w' v' cs h
  refine⟨⟨h.1,?_⟩,.inr fun g hg=>(h.lt g hg).1⟩
  rcases h.2 with h2|⟨g,cap,cur,hv,hg,r⟩
  ·exact .inl h2
  ·exact .inr ⟨g,cap,cur,hv,by omega,r⟩
 rcases hown.2 with⟨rfl,rfl⟩|⟨g,cap,cur,rfl,hg,hh,hn,hm,hs,htake⟩
 ·obtain rfl:xs=[]:=List.eq_nil_of_length_eq_zero (by simpa using hown.1)
  obtain⟨v',w',hr,h2,h3,_⟩:=run_append_own (P:=P) w w.heap.size t ty e i z 1 bytes ht hi hz hsize hby hzs (by decide) (.slice none 0 0) 0 [] (World.ownsRow_nil w _ e 1) ad m c news (by omega) hnews h1 h63 hbytes nL
  exact⟨v',w',hr,(weak h2).1,h3,(weak h2).2⟩
 ·by_cases hfit:n+m≤cap
  ·obtain⟨w',hr,h2,h3⟩:=run_append_fits (P:=P) w base t ty e i 1 ht hi hsize g n cap xs hown ad m c news (by omega) hnews h1 hfit
   exact⟨_,w',hr,h2,h3,.inl rfl⟩
  ·obtain⟨v',w',hr,h2,h3⟩:=run_append_arg_grows (P:=P) w t ty e i z 1 bytes ht hi hz hsize hby hzs (by decide) ⟨g,0,none⟩ n cap xs hown.1 (hown.cells rfl) ad m c news (by omega) hnews (by omega) h63 hbytes
   exact⟨v',w',hr,(weak h2).1,⟨h3.os,h3.tape,h3.output,h3.size,fun k hk _=>h3.block k hk (by simp)⟩,(weak h2).2⟩
theorem Qbg {P:Program}{w:World}{ops:Array Oper}{rest:List Oper}{o:Oper}{a:Act}{Q:Exit→Act→World→Prop}(hgd:o.guard=none)(s x:Operand)(t:TypeId)
  (ho:o.op=.call { callee:=.builtin .append,args:=#[s,x],argTypes:=#[t,t] })
  (base:Nat) (e:TypeId) (i:TypeInfo) (z:Value) (bytes:Nat) (ht:P.underlying t=some (.slice e)) (hi:P.info? e=some i) (hz:i.zero=some z)
  (hsize:i.size=1) (hby:i.bytes=bytes) (hzs:z.cells.size=1) (v:Value) (n:Nat) (xs:List Value) (hs:a.eval s=v) (hown:w.ownsRow base e 1 v n xs)
  (ad:Addr) (m c:Nat) (news:List Value) (hx:a.eval x=.slice (some ad) m c) (hl:news.length=m) (hnews:∀ j u,news[j]? = some u→w.cell? (ad.add j)=some u) (h1:∀ u∈news,u.oneCell'=true)
  (h63:n+m≤maxLen) (hbytes:(n+m)*bytes≤140737488355328) (hbase:base≤w.heap.size)
  (h:∀ v' w',w'.ownsRow base e 1 v' (n+m) (xs++news)→w.grownBy w' v.ownBlock→Qe6 w v v'→wpList P ops Q rest (a.put o.dst v') w'):wpList P ops Q (o :: rest) a w :=
 wpList_plain hgd fun _ hK=>by
  obtain⟨v',w',hr,h2,h3,h4⟩:=Qdw (P:=P) w base t o.type e i z bytes ht hi hz hsize hby hzs v n xs hown ad m c news hl hnews h1 h63 hbytes hbase
  unfold Oper.wp execOp
  simp only[ho,resolve,invoke,builtin,Sem.run_bind,Sem.run_pure,Result.andThen_ok,List.map_toArray,List.map_cons,List.map_nil,hs,hx,hr]
  exact hK _ _ (h v' w' h2 h3 h4)
theorem QcM (x:Addr)(n c k:Nat)(h:k<n)(w:World):(Instr.indexAt 31 (.slice (some x) n c) (I4 (k:Int))).run Tryz.prog w=.ok (.pointer (some (x.add k))) w:=by
 have h1:(k:Int)<(n:Int):=by omega
 go_simp
theorem Qdt {w:World}{p:Addr}{a:Option Addr}{n c:Nat}(h:w.cell? p=some (.slice a n c)):(Instr.loadAt 34 (.pointer (some p))).run Tryz.prog w=.ok (.slice a n c) w:=by go_simp
def sp8D (i:Nat):Option Nat:=match i with|0=>some 70|1=>some 71|2=>some 72|3=>some 73|4=>some 74|5=>some 75|6=>some 76|7=>some 77|8=>some 15|_=>none
theorem QlU:∀ i,i<9→∀ j,j<9→sp8D i=sp8D j→sp8D i≠none→i=j:=by decide
theorem Qkn:∀ i,i<9→∀ d,sp8D i=some d→d<140:=by
 intro i hi d h
 have:∀ i,i<9→(sp8D i).all (fun d=>decide (d<140))=true:=by decide
 have:=this i hi
 rw[h] at this
 simpa using this
def sp8F (M:Md)(cb n pc k ln cc:Nat)(x:Addr)(ro:Option Addr)(wd:Int)(bb:Bool)(i:Nat)(q:Value)(w:World):Prop:=match i with
 | 0=>q=.slice (some x) n pc
 | 1=>q=I4 (k:Int)
 | 2=>q=.pointer (some (x.add k))
 | 3=>q=.slice ro ln cc
 | 4=>q=I4 (ln:Int)
 | 5=>q=.agg M.cc
 | 6=>q=I4 wd
 | 7=>q=.bool bb
 | 8=>q=.bool bb
 | _=>True
theorem Qi7 {M:Md}{cb n pc k ln cc:Nat}{x:Addr}{ro:Option Addr}{wd:Int}{bb:Bool}{i:Nat}{q:Value}{w w':World}(h:sp8F M cb n pc k ln cc x ro wd bb i q w)(hb:Bw w w'):sp8F M cb n pc k ln cc x ro wd bb i q w':=by
 unfold sp8F at h ⊢
 split
 ·exact h
 ·exact h
 ·exact h
 ·exact h
 ·exact h
 ·exact h
 ·exact h
 ·exact h
 ·exact h
 ·trivial
theorem Qi6 {id:Nat}{ops:Array Oper}{Q:Exit→Act→World→Prop}{a0:Act}{w0:World}(M:Md)(cb n pc k ln cc:Nat)(x:Addr)(ro:Option Addr)(wd:Int)(bb:Bool)(S:World→Prop)(hlow:lowB ops=true)(hsz:ops.size=9)
  (oo:OpS ops 0 70 (.move (.tmp 2)) []∧OpS ops 1 71 (.move (.tmp 16)) []∧OpS ops 2 72 (.indexAddr 31 (.tmp 70) (.tmp 71)) [0,1]∧OpS ops 3 73 (.load 34 (.tmp 72)) [2]∧OpS ops 4 74 (.call { callee:=.builtin .len,args:=#[.tmp 73],argTypes:=#[34] }) [3]∧OpS ops 5 75 (.load 23 (.tmp 14)) []∧OpS ops 6 76 (.call { callee:=.value (.func 16),args:=#[.tmp 75],argTypes:=#[23] }) [5]∧OpS ops 7 77 (.binOp .eql 3 (.tmp 74) (.tmp 76) 3) [4,6]∧OpS ops 8 15 (.assign (.tmp 77)) [7])
  (hS:S w0.drew)
  (x2:∀ w,(Instr.indexAt 31 (.slice (some x) n pc) (I4 (k:Int))).run Tryz.prog w=.ok (.pointer (some (x.add k))) w)
  (x3:∀ w,S w→(Instr.loadAt 34 (.pointer (some (x.add k)))).run Tryz.prog w=.ok (.slice ro ln cc) w)
  (x5:∀ w,S w→(Instr.loadAt 23 (Pt cb)).run Tryz.prog w=.ok (.agg M.cc) w)
  (x6:∀ w,S w→Calls Tryz.prog 16 #[.agg M.cc] w fun e w'=>e=.returned (I4 wd)∧Bw w w'∧S w')
  (x7:∀ w,(binOp .eql 3 (I4 (ln:Int)) (I4 wd)).run Tryz.prog w=.ok (.bool bb) w)
  (u2:a0.tmps.getD 2 undef=.slice (some x) n pc)
  (u14:a0.tmps.getD 14 undef=Pt cb)
  (u16:a0.tmps.getD 16 undef=I4 (k:Int))
  (hs:140≤a0.tmps.size)
  (fin:∀ a w,a.tmps.size=a0.tmps.size→a.defers=a0.defers→(∀ s,(∀ i,i<9→sp8D i≠some s)→a.tmps.getD s undef=a0.tmps.getD s undef)→S w→(∀ i d,i<9→sp8D i=some d→sp8F M cb n pc k ln cc x ro wd bb i (a.tmps.getD d undef) w)→Q .normal a w):(Code.region id ops true).wp Tryz.prog Q a0 w0:=by
 obtain⟨o0,o1,o2,o3,o4,o5,o6,o7,o8⟩:=oo
 have r16:∀ args w,(callFunc 16 args).run Tryz.prog w=.ok (.enter 16 args) w:=eNo Tryz.func16 (by kernel_rfl) rfl
 refine wRi (by kernel_rfl) hlow (Inv 9 sp8D a0 (fun l a w=>S w∧Qbf 9 sp8D a0 l a) (fun _=>sp8F M cb n pc k ln cc x ro wd bb)) (Inv.start ⟨hS,QaB _ _ _⟩) ?_ ?_
 ·intro l i o a w ho hl hcl hdep hI
  have hi:i<9:=by rw[←hsz];exact (Array.getElem?_eq_some_iff.1 ho).1
  have ev:∀ (s:Nat),a.eval (.tmp s)=a.tmps.getD s undef:=fun _=>rfl
  have evf:∀ f,a.eval (.func f)=.func (.func f) #[] #[]:=fun _=>rfl
  have evc:∀ c:Value,a.eval (.const c)=c:=fun _=>rfl
  have inj:∀ d,sp8D i=some d→∀ j d',j<9→sp8D j=some d'→j≠i→d'≠d:=fun d hd j d' hj hd' hne e=>hne (QlU j hj i hi (by rw[hd',hd,e]) (by rw[hd'];simp))
  have kp:∀ s,(∀ i,i<9→sp8D i≠some s)→a.tmps.getD s undef=a0.tmps.getD s undef:=hI.kept
  have hw:S w:=hI.world.1
  have k2:=hI.world.2
  have ex0:=hI.world.2
  have go:∀ {d:Nat}{v:Value}{w':World},sp8D i=some d→Bw w w'→S w'→sp8F M cb n pc k ln cc x ro wd bb i v w'→Inv 9 sp8D a0 (fun l a w=>S w∧Qbf 9 sp8D a0 l a) (fun _=>sp8F M cb n pc k ln cc x ro wd bb) (fun j=>l j || j==i) (a.put (some d) v) w':=by
   intro d v w' hD hb hS' hF
   exact hI.put hi hD (Nat.lt_of_lt_of_le (Qkn i hi d hD) hs) (inj d hD) ⟨hS',k2.put hD (by rw[hI.size];exact Nat.lt_of_lt_of_le (Qkn i hi d hD) hs) hi⟩ hF (fun j u _ _ _ hf=>Qi7 hf hb)
  rcases l9 (show i<9 by omega) with rfl|rfl|rfl|rfl|rfl|rfl|rfl|rfl|rfl
  ·obtain⟨e2,e3,e4,dp⟩:=o0.at_ ho hdep
   have U2:=(kp 2 (by decide)).trans u2
   exact wVa (v:=.slice (some x) n pc) (w':=w) ho e4 (by simp[execOp,e3,ev,evc,U2]) (by rw[e2];exact go rfl bR hw rfl)
  ·obtain⟨e2,e3,e4,dp⟩:=o1.at_ ho hdep
   have U16:=(kp 16 (by decide)).trans u16
   exact wVa (v:=I4 (k:Int)) (w':=w) ho e4 (by simp[execOp,e3,ev,evc,U16]) (by rw[e2];exact go rfl bR hw rfl)
  ·obtain⟨e2,e3,e4,dp⟩:=o2.at_ ho hdep
   have V0:tm a 70=_:=hI.vl dp 0 70 rfl rfl
   have V1:tm a 71=_:=hI.vl dp 1 71 rfl rfl
   exact wVa (v:=.pointer (some (x.add k))) (w':=w) ho e4 (by simp[execOp,e3,ev,evc,V0,V1,x2 w]) (by rw[e2];exact go rfl bR hw rfl)
  ·obtain⟨e2,e3,e4,dp⟩:=o3.at_ ho hdep
   have V2:tm a 72=_:=hI.vl dp 2 72 rfl rfl
   exact wVa (v:=.slice ro ln cc) (w':=w) ho e4 (by simp[execOp,e3,ev,evc,V2,x3 w hw]) (by rw[e2];exact go rfl bR hw rfl)
  ·obtain⟨e2,e3,e4,dp⟩:=o4.at_ ho hdep
   have V3:tm a 73=_:=hI.vl dp 3 73 rfl rfl
   exact wVa (v:=I4 (ln:Int)) (w':=w) ho e4 (by simp[execOp,e3,ev,evc,V3,builtin,resolve,invoke,goInt,Builtin.len_,run_underlying Tryz.underlying34]) (by rw[e2];exact go rfl bR hw rfl)
  ·obtain⟨e2,e3,e4,dp⟩:=o5.at_ ho hdep
   have U14:=(kp 14 (by decide)).trans u14
   exact wVa (v:=.agg M.cc) (w':=w) ho e4 (by simp[execOp,e3,ev,evc,U14,x5 w hw]) (by rw[e2];exact go rfl bR hw rfl)
  ·obtain⟨e2,e3,e4,dp⟩:=o6.at_ ho hdep
   have V5:tm a 75=_:=hI.vl dp 5 75 rfl rfl
   refine wCa (f:=16) (args:=#[.agg M.cc]) ho e4 (by simp[execOp,e3,resolve,invoke,Deferred.ofValue,r16,ev,evf,evc,V5]) ((x6 w hw).mono ?_)
   rintro e W' ⟨rfl,hb6,hs6⟩
   refine⟨_,rfl,?_⟩
   rw[e2]
   exact go rfl hb6 hs6 rfl
  ·obtain⟨e2,e3,e4,dp⟩:=o7.at_ ho hdep
   have V4:tm a 74=_:=hI.vl dp 4 74 rfl rfl
   have V6:tm a 76=_:=hI.vl dp 6 76 rfl rfl
   exact wVa (v:=.bool bb) (w':=w) ho e4 (by simp[execOp,e3,ev,evc,V4,V6,x7 w,eqGuard]) (by rw[e2];exact go rfl bR hw rfl)
  ·obtain⟨e2,e3,e4,dp⟩:=o8.at_ ho hdep
   have V7:tm a 77=_:=hI.vl dp 7 77 rfl rfl
   exact wVa (v:=.bool bb) (w':=w) ho e4 (by simp[execOp,e3,ev,evc,V7]) (by rw[e2];exact go rfl bR hw rfl)
 ·intro l a w hall hI
  have all:∀ j,j<9→l j=true:=fun j hj=>hall j (by rw[hsz];exact hj)
  exact fin a w hI.size hI.defers hI.kept hI.world.1 (fun i d hi hD=>hI.val i d hi hD (all i hi))
theorem Qk9 {s:Nat}(h:s ∉ [68,69,70,71,72,73,74,75,76,77,78,79,80,81,82,83,84,85,86,87,88,89,90,91,92,93,94,95,96,97,98,99,100,101,102,103,104,105,106,107,108,109,110,111,112,113,114,115,116,117,118,119,120,121,122,123,124,125,126,127,128,129,130,131,132,133,134,135,136,137,138,139,5]):∀ j,j<73→lyD j≠some s:=by
 intro j hj e
 apply h
 have:∀ j,j<73→∀ s,lyD j=some s→s∈[68,69,70,71,72,73,74,75,76,77,78,79,80,81,82,83,84,85,86,87,88,89,90,91,92,93,94,95,96,97,98,99,100,101,102,103,104,105,106,107,108,109,110,111,112,113,114,115,116,117,118,119,120,121,122,123,124,125,126,127,128,129,130,131,132,133,134,135,136,137,138,139,5]:=by
  intro j hj
  have H:∀ j,j<73→(match lyD j with|some s=>decide (s∈[68,69,70,71,72,73,74,75,76,77,78,79,80,81,82,83,84,85,86,87,88,89,90,91,92,93,94,95,96,97,98,99,100,101,102,103,104,105,106,107,108,109,110,111,112,113,114,115,116,117,118,119,120,121,122,123,124,125,126,127,128,129,130,131,132,133,134,135,136,137,138,139,5])|none=>true)=true:=by decide
  intro s hs
  have:=H j hj
  rw[hs] at this
  simpa using this
 exact this j hj s e
def lyC (D DD XD:Nat)(NE:Int)(Y:Nat→SL)(j:Nat):Bool:=((Y j).n:Int)==(if j=0∨j=5 then (D:Int) else if j=6 then (XD:Int) else if j<7 then (DD:Int) else NE)
theorem Qdz (h v u x t n:Int)(D DD XD UD VD ml Lc lN:Nat)(La:Option Addr)(E L N O:SL)(Y U Dn:Nat→Nat→SL)(m:ModV)(w:World)(RES:Int)(e1:v*(D:Int)=(VD:Int))(e2:(D:Int)*(D:Int)=(DD:Int))(e3:x*(D:Int)=(XD:Int))(e4:u*(D:Int)=(UD:Int))(e5:(D:Int)*u=(UD:Int))(xlt:x<1)
  (bD:D≤8) (bVD:VD≤1000) (bDD:DD≤1000) (bXD:XD≤1000) (bUD:UD≤1000) (hL:L=⟨La,ml,Lc⟩) (hM:Qad w E L N O Y U Dn m) (hmx:ml≤9223372036854775807)
  (k10:∀ W,Calls Tryz.prog 36 #[.agg #[I4 (D:Int),I4 h,I4 (lN:Int),I4 v,I4 u,I4 x,I4 t,I4 n]] W fun e w'=>e=.returned (.bool true)∧Below W.heap.size W w') (hgood:AllR lN D DD XD UD VD 1 m→RES=0) (hbad:¬AllR lN D DD XD UD VD 1 m→RES=21)
  (p0:P0 lN D VD m) (t0:((ml:Int)==(lN:Int))=true) (t1:((E.n:Int)==(VD:Int))=true) (t2:((N.n:Int)==(D:Int))=true) (t3:((O.n:Int)==(VD:Int))=true) :
  Calls Tryz.prog 50 #[.agg #[I4 (D:Int),I4 h,I4 (lN:Int),I4 v,I4 u,I4 x,I4 t,I4 n,.slice E.a E.n E.c,.slice La ml Lc,.slice N.a N.n N.c,.slice O.a O.n O.c]] w fun e w'=>e=.returned (I4 RES)∧Below w.heap.size w w':=by
 have eml:m.ln=ml:=by have:=hM.len;rw[hL] at this;exact this.symm
 have hb:=bNw (bNw (bS w) (.cells #[I4 (D:Int),I4 h,I4 (lN:Int),I4 v,I4 u,I4 x,I4 t,I4 n,.slice E.a E.n E.c,.slice La ml Lc,.slice N.a N.n N.c,.slice O.a O.n O.c] 27)) (.cells #[I4 (D:Int),I4 h,I4 (lN:Int),I4 v,I4 u,I4 x,I4 t,I4 n] 23)
 have qb:Blk 27 ((w.alloc (.cells #[I4 (D:Int),I4 h,I4 (lN:Int),I4 v,I4 u,I4 x,I4 t,I4 n,.slice E.a E.n E.c,.slice La ml Lc,.slice N.a N.n N.c,.slice O.a O.n O.c] 27)).alloc (.cells #[I4 (D:Int),I4 h,I4 (lN:Int),I4 v,I4 u,I4 x,I4 t,I4 n] 23)) w.heap.size #[I4 (D:Int),I4 h,I4 (lN:Int),I4 v,I4 u,I4 x,I4 t,I4 n,.slice E.a E.n E.c,.slice La ml Lc,.slice N.a N.n N.c,.slice O.a O.n O.c]:=(Blk.new 27 w _).kept (bNw bR _)
 have qc:Blk 23 ((w.alloc (.cells #[I4 (D:Int),I4 h,I4 (lN:Int),I4 v,I4 u,I4 x,I4 t,I4 n,.slice E.a E.n E.c,.slice La ml Lc,.slice N.a N.n N.c,.slice O.a O.n O.c] 27)).alloc (.cells #[I4 (D:Int),I4 h,I4 (lN:Int),I4 v,I4 u,I4 x,I4 t,I4 n] 23)) (w.heap.size+1) #[I4 (D:Int),I4 h,I4 (lN:Int),I4 v,I4 u,I4 x,I4 t,I4 n]:=Blk.new_at 23 (w.alloc _) _ _ (by simp)
 obtain⟨a0,a1,a2,a3,a4,a5,a6,a7,a8,a9,a10,a11⟩:=qb.c12
 obtain⟨b0,b1,b2,b3,b4,b5,b6,b7⟩:=qc.cfg
 have HH:=hdn (And.intro p0 (And.intro hM eml))
 have HL:=hdn (show L.a=La by rw[hL])
 have HG:=hdn (And.intro hgood hbad)
 clear p0 hM eml hL hgood hbad
 go_enter Tryz.func50,Tryz.ntmps50
 go_wp2_with (first
  | (go_at_call 36;refine (k10 _).mono ?_;rintro e W1 ⟨rfl,h1⟩;replace qb:=qb.kept h1;replace qc:=qc.kept h1;replace hb:=bTn hb h1;clear h1 a0 a1 a2 a3 a4 a5 a6 a7 a8 a9 a10 a11 b0 b1 b2 b3 b4 b5 b6 b7;obtain⟨a0,a1,a2,a3,a4,a5,a6,a7,a8,a9,a10,a11⟩:=qb.c12;obtain⟨b0,b1,b2,b3,b4,b5,b6,b7⟩:=qc.cfg))
 have HB0:=hdn (And.intro hb (And.intro qb qc))
 clear hb a0 a1 a2 a3 a4 a5 a6 a7 a8 a9 a10 a11 b0 b1 b2 b3 b4 b5 b6 b7 t0 t1 t2 t3 qb qc
 go_loopw [5,7,8,9] (fun vb i _ _ wr=>∃ (b:Bool) (k:Nat),k≤ml∧vb=.bool b∧i=I4 k∧Below W1.heap.size W1 wr∧(b=true→∀ j,j<k→Ly D DD XD 1 m j∧∀ j',j'<1→Nt UD m j j')∧(b=false→¬AllR lN D DD XD UD VD 1 m)) (fun _ i _ _ _=>ml-(intOf i).toNat)
 case atStart=>exact⟨true,0,Nat.zero_le _,rfl,rfl,Below.refl _ _,(fun _ j hj=>absurd hj (by omega)),(fun h=>by cases h)⟩
 case round =>
  obtain⟨b,k,hk,rfl,rfl,hbr,hgd,hbd⟩:=hrel
  obtain⟨WR,eWR⟩:∃ WR,WR=wr:=⟨_,rfl⟩
  subst eWR
  obtain⟨hb,qb,qc⟩:=HB0.out
  have hbw:=bTn hb hbr
  have qbr:=qb.kept hbr
  have qcr:=qc.kept hbr
  obtain⟨a0,a1,a2,a3,a4,a5,a6,a7,a8,a9,a10,a11⟩:=qbr.c12
  obtain⟨b0,b1,b2,b3,b4,b5,b6,b7⟩:=qcr.cfg
  cases b with
  | false =>
   have RB:=hdn (HG.out.2 (hbd rfl))
   clear hgd hbd hb qb qc hbr qbr qcr
   by_cases hlt:k<ml
   ·have hz':decide ((k:Int)<(ml:Int))=true:=by simp;omega
    have hz2:(k:Int)<(ml:Int):=by omega
    go_wp2
    go_ret
    exact⟨by rw[RB.out];rfl,hbw⟩
   ·have hz':decide ((k:Int)<(ml:Int))=false:=by simp;omega
    have hz2:¬(k:Int)<(ml:Int):=by omega
    go_wp2
    go_ret
    exact⟨by rw[RB.out];rfl,hbw⟩
  | true =>
  by_cases hlt:k<ml
  ·have hz':decide ((k:Int)<(ml:Int))=true:=by simp;omega
   have hz2:(k:Int)<(ml:Int):=by omega
   obtain⟨P0',hM',eml'⟩:=HH.out
   have hMr:=hM'.below hbw
   have hkm:k<m.ln:=by omega
   obtain⟨x0,hx0⟩:=hMr.some_ (by omega)
   obtain rfl:La=some x0:=by rw[←hx0,HL.out]
   have LA:=hMr.lay k hkm
   obtain⟨P,eP,p0,p1,p2,p3,p4,p5,p6,p7,p8⟩:=Qgb (fun j hj=>hMr.cell x0 hx0 k hkm j hj)
   obtain⟨A,eA⟩:∃ A,WR.alloc (.cells #[.slice (Y k 0).a (Y k 0).n (Y k 0).c,.slice (Y k 1).a (Y k 1).n (Y k 1).c,.slice (Y k 2).a (Y k 2).n (Y k 2).c,.slice (Y k 3).a (Y k 3).n (Y k 3).c,.slice (Y k 4).a (Y k 4).n (Y k 4).c,.slice (Y k 5).a (Y k 5).n (Y k 5).c,.slice (Y k 6).a (Y k 6).n (Y k 6).c,.slice (Y k 7).a (Y k 7).n (Y k 7).c,.slice (Y k 8).a (Y k 8).n (Y k 8).c] 65)=A:=⟨_,rfl⟩
   have bA:Below WR.heap.size WR A:=eA ▸ bNw bR _
   have gA:Blk 65 A WR.heap.size #[.slice (Y k 0).a (Y k 0).n (Y k 0).c,.slice (Y k 1).a (Y k 1).n (Y k 1).c,.slice (Y k 2).a (Y k 2).n (Y k 2).c,.slice (Y k 3).a (Y k 3).n (Y k 3).c,.slice (Y k 4).a (Y k 4).n (Y k 4).c,.slice (Y k 5).a (Y k 5).n (Y k 5).c,.slice (Y k 6).a (Y k 6).n (Y k 6).c,.slice (Y k 7).a (Y k 7).n (Y k 7).c,.slice (Y k 8).a (Y k 8).n (Y k 8).c]:=eA ▸ Blk.new 65 WR _
   have qbA:=qbr.kept bA
   have qcA:=qcr.kept bA
   obtain⟨d0,d1,d2,d3,d4,d5,d6,d7⟩:=qcA.cfg
   have c0:=gA.cell 0 rfl
   have c1:=gA.cell 1 rfl
   have c2:=gA.cell 2 rfl
   have c3:=gA.cell 3 rfl
   have c4:=gA.cell 4 rfl
   have c5:=gA.cell 5 rfl
   have c6:=gA.cell 6 rfl
   have c7:=gA.cell 7 rfl
   have c8:=gA.cell 8 rfl
   have hbA:=bTn hbr bA
   have HX:=hdn (And.intro hgd (And.intro hbA (And.intro qbA (And.intro qcA (And.intro gA (LA.below bA))))))
   clear hMr hM' P0' eml' hgd hbd hb qb qc hbr qbr qcr hbw qbA qcA hx0 gA bA hbA
   have LYK:Hid (lyC D DD XD 1 (Y k)=lyC D DD XD 1 (Y k)∧(bk (lyC D DD XD 1 (Y k)) 8=true→Ly D DD XD 1 m k∧(Y k 7).n=1∧(Y k 8).n=1)):=⟨rfl,fun hb=>by
    have H:=Qhl.1 hb
    have y0:((Y k 0).n:Int)=(D:Int):=(by simpa [lyC] using H 0 (by omega))
    have y1:((Y k 1).n:Int)=(DD:Int):=(by simpa [lyC] using H 1 (by omega))
    have y2:((Y k 2).n:Int)=(DD:Int):=(by simpa [lyC] using H 2 (by omega))
    have y3:((Y k 3).n:Int)=(DD:Int):=(by simpa [lyC] using H 3 (by omega))
    have y4:((Y k 4).n:Int)=(DD:Int):=(by simpa [lyC] using H 4 (by omega))
    have y5:((Y k 5).n:Int)=(D:Int):=(by simpa [lyC] using H 5 (by omega))
    have y6:((Y k 6).n:Int)=(XD:Int):=(by simpa [lyC] using H 6 (by omega))
    have y7:((Y k 7).n:Int)=1:=(by simpa [lyC] using H 7 (by omega))
    have y8:((Y k 8).n:Int)=1:=(by simpa [lyC] using H 8 (by omega))
    have z0:=(LA.f 0 (by omega)).reads.len
    have z1:=(LA.f 1 (by omega)).reads.len
    have z2:=(LA.f 2 (by omega)).reads.len
    have z3:=(LA.f 3 (by omega)).reads.len
    have z4:=(LA.f 4 (by omega)).reads.len
    have z5:=(LA.f 5 (by omega)).reads.len
    have z6:=(LA.f 6 (by omega)).reads.len
    have z7:=LA.u.len
    have z8:=LA.d.len
    refine⟨⟨fun r hr=>?_,by omega,by omega⟩,by omega,by omega⟩
    rcases l7 (show r<7 by omega) with rfl|rfl|rfl|rfl|rfl|rfl|rfl
    ·show _=D;omega
    ·show _=DD;omega
    ·show _=DD;omega
    ·show _=DD;omega
    ·show _=DD;omega
    ·show _=D;omega
    ·show _=XD;omega⟩
   have LNO:Hid (bk (lyC D DD XD 1 (Y k)) 8=false→¬AllR lN D DD XD UD VD 1 m):=fun hb a=>by
    have:=HH.out.2.2
    have LY:=(a.2 k (by omega)).1
    have f0:(m.f k 0).length=D:=LY.1 0 (by omega)
    have f1:(m.f k 1).length=DD:=LY.1 1 (by omega)
    have f2:(m.f k 2).length=DD:=LY.1 2 (by omega)
    have f3:(m.f k 3).length=DD:=LY.1 3 (by omega)
    have f4:(m.f k 4).length=DD:=LY.1 4 (by omega)
    have f5:(m.f k 5).length=D:=LY.1 5 (by omega)
    have f6:(m.f k 6).length=XD:=LY.1 6 (by omega)
    have f7:=LY.2.1
    have f8:=LY.2.2
    have z0:=(LA.f 0 (by omega)).reads.len
    have z1:=(LA.f 1 (by omega)).reads.len
    have z2:=(LA.f 2 (by omega)).reads.len
    have z3:=(LA.f 3 (by omega)).reads.len
    have z4:=(LA.f 4 (by omega)).reads.len
    have z5:=(LA.f 5 (by omega)).reads.len
    have z6:=(LA.f 6 (by omega)).reads.len
    have z7:=LA.u.len
    have z8:=LA.d.len
    have:bk (lyC D DD XD 1 (Y k)) 8=true:=Qhl.2 fun i hi=>by
     rcases l9 (show i<9 by omega) with rfl|rfl|rfl|rfl|rfl|rfl|rfl|rfl|rfl<;>(simp[lyC];omega)
    rw[hb] at this
    cases this
   clear LA
   have HX2:=HX.out
   go_upto_region 11 with fail
   clear c0 c1 c2 c3 c4 c5 c6 c7 c8 d0 d1 d2 d3 d4 d5 d6 d7 a0 a1 a2 a3 a4 a5 a6 a7 a8 a9 a10 a11 b0 b1 b2 b3 b4 b5 b6 b7 p0 p1 p2 p3 p4 p5 p6 p7 p8
   refine QdS h (lN:Int) v u x t n D DD XD 1 (w.heap.size+1) WR.heap.size (Y k) (lyC D DD XD 1 (Y k)) SL.nought SL.nought SL.nought rfl (fun w=>by go_simp;exact Qau (by omega) (by omega)) (fun w=>by go_simp;exact Qau (by omega) (by omega)) ⟨rfl,rfl,rfl,rfl,rfl,rfl,rfl,rfl,rfl⟩ HX2.2.2.2.2.1 HX2.2.2.2.1 rfl rfl rfl rfl (Nat.le_of_ble_eq_true rfl) ?_
   intro a wA hs hd hkp v5 eA'
   have eA2:=eA'.symm
   subst eA2
   obtain⟨f,ef,ep⟩:=fPy [68,69,70,71,72,73,74,75,76,77,78,79,80,81,82,83,84,85,86,87,88,89,90,91,92,93,94,95,96,97,98,99,100,101,102,103,104,105,106,107,108,109,110,111,112,113,114,115,116,117,118,119,120,121,122,123,124,125,126,127,128,129,130,131,132,133,134,135,136,137,138,139,5] hs hd (fun s h'=>hkp s (Qk9 h'))
   simp only[ef] at v5
   simp only[List.foldl,v5,Act.put,List.setIfInBounds_toArray,List.set_cons_succ,List.set_cons_zero] at ep
   clear hs hd hkp v5 HX2 ef
   subst ep
   obtain⟨BB,eBB⟩:∃ BB,bk (lyC D DD XD 1 (Y k)) 8=BB:=⟨_,rfl⟩
   rw[eBB] at LYK LNO ⊢
   go_wp2
   clear eA
   obtain⟨lb,elb⟩:∃ lb,WR.heap.size=lb:=⟨_,rfl⟩
   rw[elb] at HX ⊢
   clear elb eBB
   go_loopw [5,9] (fun vb j wr=>∃ (b:Bool) (q:Nat),q≤1∧vb=.bool b∧j=I4 q∧Below A.heap.size A wr∧(b=true→BB=true∧∀ j',j'<q→Nt UD m k j')∧(b=false→¬AllR lN D DD XD UD VD 1 m)) (fun _ j _=>1-(intOf j).toNat)
   case atStart=>exact⟨BB,0,Nat.zero_le _,rfl,rfl,Below.refl _ _,(fun h=>⟨h,fun j hj=>absurd hj (by omega)⟩),LNO.out⟩
   case round =>
    obtain⟨b,q,hq,rfl,rfl,hbq,hgd2,hbd2⟩:=hrel
    obtain⟨hgd,hbA,qbA,qcA,gA,LA⟩:=HX.out
    have hbF:=bTn hbA hbq
    cases b with
    | false =>
     have BAD:=hdn (hbd2 rfl)
     clear hgd hbA qbA qcA gA LA hgd2 hbd2 hbq
     by_cases hl2:q<1
     ·have hz3:decide ((q:Int)<1)=true:=by simp;omega
      have hz4:(q:Int)<1:=by omega
      go_wp2
      go_roundw
      case rel=>exact⟨false,k+1,by omega,rfl,by go_num,hbF,(fun h=>by cases h),fun _=>BAD.out⟩
      case measure=>simp[intOf];omega
     ·have hz3:decide ((q:Int)<1)=false:=by simp;omega
      have hz4:¬(q:Int)<1:=by omega
      go_wp2
      go_roundw
      case rel=>exact⟨false,k+1,by omega,rfl,by go_num,hbF,(fun h=>by cases h),fun _=>BAD.out⟩
      case measure=>simp[intOf];omega
    | true =>
    obtain⟨hBB,hgd2⟩:=hgd2 rfl
    have LEN:=hdn (LYK.out.2 hBB)
    have hgd3:BB=true:=hBB
    clear hBB
    have HBB:=hdn hgd3
    clear hgd3
    by_cases hl2:q<1
    ·have hz3:decide ((q:Int)<1)=true:=by simp;omega
     have hz4:(q:Int)<1:=by omega
     have LAq:=LA.below hbq
     have e7:=LEN.out.2.1
     have e8:=LEN.out.2.2
     obtain⟨x7,hx7⟩:=LAq.u.some_ (by have:=LAq.u.len;omega)
     obtain⟨x8,hx8⟩:=LAq.d.some_ (by have:=LAq.d.len;omega)
     have g:=gA.kept hbq
     rw[hx7,hx8,e7,e8] at g
     have c7:=g.cell 7 rfl
     have c8:=g.cell 8 rfl
     obtain⟨d0,d1,d2,d3,d4,d5,d6,d7⟩:=(qcA.kept hbq).cfg
     have cU:wr.cell? (x7.add q)=some (.slice (U k q).a (U k q).n (U k q).c):=LAq.u.cell x7 hx7 q (by have:=LAq.u.len;omega)
     have cD:wr.cell? (x8.add q)=some (.slice (Dn k q).a (Dn k q).n (Dn k q).c):=LAq.d.cell x8 hx8 q (by have:=LAq.d.len;omega)
     have rU:=(LAq.u.row q (by have:=LAq.u.len;omega)).reads.len
     have rD:=(LAq.d.row q (by have:=LAq.d.len;omega)).reads.len
     have HR:=hdn (And.intro rU (And.intro rD hgd2))
     clear LAq LA e7 e8 hx7 hx8 g hgd hbA qbA qcA gA hgd2 hbd2 rU rD
     cases s0:(((U k q).n:Int)==(UD:Int)) with
     | false =>
      have BAD:Hid (¬AllR lN D DD XD UD VD 1 m):=fun a=>by have:=HH.out.2.2;have:=((a.2 k (by omega)).2 q hl2).1;have:=HR.out.1;have g:((U k q).n:Int)≠(UD:Int):=(by simpa using s0);omega
      go_wp2
      go_quiet (fail)
      go_wp2
      go_roundw
      case rel=>exact⟨false,q+1,by omega,rfl,by go_num,bDr hbq ⟨_,rfl⟩,(fun h=>by cases h),fun _=>BAD.out⟩
      case measure=>simp[intOf];omega
     | true =>
     cases s1:(((Dn k q).n:Int)==(UD:Int)) with
     | false =>
      have BAD:Hid (¬AllR lN D DD XD UD VD 1 m):=fun a=>by have:=HH.out.2.2;have:=((a.2 k (by omega)).2 q hl2).2;have:=HR.out.2.1;have g:((Dn k q).n:Int)≠(UD:Int):=(by simpa using s1);omega
      go_wp2
      go_quiet (fail)
      go_wp2
      go_roundw
      case rel=>exact⟨false,q+1,by omega,rfl,by go_num,bDr hbq ⟨_,rfl⟩,(fun h=>by cases h),fun _=>BAD.out⟩
      case measure=>simp[intOf];omega
     | true =>
      have NTQ:Hid (Nt UD m k q):=⟨by have:=HR.out.1;have g:((U k q).n:Int)=(UD:Int):=(by simpa using s0);omega,by have:=HR.out.2.1;have g:((Dn k q).n:Int)=(UD:Int):=(by simpa using s1);omega⟩
      go_wp2
      go_quiet (fail)
      go_wp2
      go_roundw
      case rel=>exact⟨true,q+1,by omega,rfl,by go_num,bDr hbq ⟨_,rfl⟩,(fun _=>⟨HBB.out,fun j hj=>(Decidable.em (j=q)).elim (fun e=>by rw[e];exact NTQ.out) (fun e=>HR.out.2.2 j (by omega))⟩),(fun h=>by cases h)⟩
      case measure=>simp[intOf];omega
    ·have hz3:decide ((q:Int)<1)=false:=by simp;omega
     have hz4:¬(q:Int)<1:=by omega
     have eq:q=1:=by omega
     have GD:=hdn (And.intro hgd (And.intro hgd2 eq))
     clear hgd hbA qbA qcA gA LA hgd2 hbd2 hbq eq
     go_wp2
     go_roundw
     case rel=>exact⟨true,k+1,by omega,rfl,by go_num,hbF,(fun _ j hj=>(Decidable.em (j=k)).elim (fun e=>by rw[e];exact⟨LEN.out.1,fun j' hj'=>GD.out.2.1 j' (by have:=GD.out.2.2;omega)⟩) (fun e=>GD.out.1 (by first|rfl|trivial) j (by omega))),(fun h=>by cases h)⟩
     case measure=>simp[intOf];omega
  ·have hz':decide ((k:Int)<(ml:Int))=false:=by simp;omega
   have hz2:¬(k:Int)<(ml:Int):=by omega
   have RG:=hdn (HG.out.1 ⟨HH.out.1,fun i hi=>hgd rfl i (by have:=HH.out.2.2;omega)⟩)
   clear hgd hbd hb qb qc hbr qbr qcr
   go_wp2
   go_ret
   exact⟨by rw[RG.out];rfl,hbw⟩
theorem QgJ (h v u x t n:Int)(D DD XD UD VD ml Lc lN:Nat)(La:Option Addr)(E L N O:SL)(Y U Dn:Nat→Nat→SL)(m:ModV)(w:World)(RES:Int)(e1:v*(D:Int)=(VD:Int))(e2:(D:Int)*(D:Int)=(DD:Int))(e3:x*(D:Int)=(XD:Int))(e4:u*(D:Int)=(UD:Int))(e5:(D:Int)*u=(UD:Int))(xlt:x<1)
  (bD:D≤8) (bVD:VD≤1000) (bDD:DD≤1000) (bXD:XD≤1000) (bUD:UD≤1000) (hL:L=⟨La,ml,Lc⟩) (hM:Qad w E L N O Y U Dn m) (hmx:ml≤9223372036854775807)
  (k10:∀ W,Calls Tryz.prog 36 #[.agg #[I4 (D:Int),I4 h,I4 (lN:Int),I4 v,I4 u,I4 x,I4 t,I4 n]] W fun e w'=>e=.returned (.bool true)∧Bw W w') (hgood:AllR lN D DD XD UD VD 1 m→RES=0) (hbad:¬AllR lN D DD XD UD VD 1 m→RES=21) :
  Calls Tryz.prog 50 #[.agg #[I4 (D:Int),I4 h,I4 (lN:Int),I4 v,I4 u,I4 x,I4 t,I4 n,E.w,.slice La ml Lc,N.w,O.w]] w fun e w'=>e=.returned (I4 RES)∧Bw w w':=by
 have main:=Qdz h v u x t n D DD XD UD VD ml Lc lN La E L N O Y U Dn m w RES e1 e2 e3 e4 e5 xlt bD bVD bDD bXD bUD hL hM hmx k10 hgood hbad
 have eml:m.ln=ml:=by have:=hM.len;rw[hL] at this;exact this.symm
 have hb:=bNw (bNw (bS w) (.cells #[I4 (D:Int),I4 h,I4 (lN:Int),I4 v,I4 u,I4 x,I4 t,I4 n,E.w,.slice La ml Lc,N.w,O.w] 27)) (.cells #[I4 (D:Int),I4 h,I4 (lN:Int),I4 v,I4 u,I4 x,I4 t,I4 n] 23)
 have qb:Blk 27 ((w.alloc (.cells #[I4 (D:Int),I4 h,I4 (lN:Int),I4 v,I4 u,I4 x,I4 t,I4 n,E.w,.slice La ml Lc,N.w,O.w] 27)).alloc (.cells #[I4 (D:Int),I4 h,I4 (lN:Int),I4 v,I4 u,I4 x,I4 t,I4 n] 23)) w.heap.size #[I4 (D:Int),I4 h,I4 (lN:Int),I4 v,I4 u,I4 x,I4 t,I4 n,E.w,.slice La ml Lc,N.w,O.w]:=(Blk.new 27 w _).kept (bNw bR _)
 have qc:Blk 23 ((w.alloc (.cells #[I4 (D:Int),I4 h,I4 (lN:Int),I4 v,I4 u,I4 x,I4 t,I4 n,E.w,.slice La ml Lc,N.w,O.w] 27)).alloc (.cells #[I4 (D:Int),I4 h,I4 (lN:Int),I4 v,I4 u,I4 x,I4 t,I4 n] 23)) (w.heap.size+1) #[I4 (D:Int),I4 h,I4 (lN:Int),I4 v,I4 u,I4 x,I4 t,I4 n]:=Blk.new_at 23 (w.alloc _) _ _ (by simp)
 obtain⟨a0,a1,a2,a3,a4,a5,a6,a7,a8,a9,a10,a11⟩:=qb.c12
 obtain⟨b0,b1,b2,b3,b4,b5,b6,b7⟩:=qc.cfg
 cases t0:((ml:Int)==(lN:Int)) with
 | false =>
  clear main
  have RB:=hdn (hbad (fun a=>by have q:=a.1.1;have:(ml:Int)≠(lN:Int):=(by simpa using t0);omega))
  clear hbad hgood hM hL eml
  by_cases hz:0<ml
  ·have hz':decide ((0:Int)<(ml:Int))=true:=by simp;omega
   have hz2:(0:Int)<(ml:Int):=by omega
   go_enter Tryz.func50,Tryz.ntmps50
   go_wp2_with (first
    | (go_at_call 36;refine (k10 _).mono ?_;rintro e W1 ⟨rfl,h1⟩;replace qb:=qb.kept h1;replace qc:=qc.kept h1;replace hb:=bTn hb h1;clear h1 a0 a1 a2 a3 a4 a5 a6 a7 a8 a9 a10 a11 b0 b1 b2 b3 b4 b5 b6 b7;obtain⟨a0,a1,a2,a3,a4,a5,a6,a7,a8,a9,a10,a11⟩:=qb.c12;obtain⟨b0,b1,b2,b3,b4,b5,b6,b7⟩:=qc.cfg))
   refine wp_loop_rounds 1 ?_
   rw[rounds_succ]
   go_wp2
   go_ret
   exact⟨by rw[RB.out];rfl,hb⟩
  ·have hz':decide ((0:Int)<(ml:Int))=false:=by simp;omega
   have hz2:¬(0:Int)<(ml:Int):=by omega
   go_enter Tryz.func50,Tryz.ntmps50
   go_wp2_with (first
    | (go_at_call 36;refine (k10 _).mono ?_;rintro e W1 ⟨rfl,h1⟩;replace qb:=qb.kept h1;replace qc:=qc.kept h1;replace hb:=bTn hb h1;clear h1 a0 a1 a2 a3 a4 a5 a6 a7 a8 a9 a10 a11 b0 b1 b2 b3 b4 b5 b6 b7;obtain⟨a0,a1,a2,a3,a4,a5,a6,a7,a8,a9,a10,a11⟩:=qb.c12;obtain⟨b0,b1,b2,b3,b4,b5,b6,b7⟩:=qc.cfg))
   refine wp_loop_rounds 1 ?_
   rw[rounds_succ]
   go_wp2
   go_ret
   exact⟨by rw[RB.out];rfl,hb⟩
 | true =>
 cases t1:((E.n:Int)==(VD:Int)) with
 | false =>
  clear main
  have RB:=hdn (hbad (fun a=>by have:=a.1.2.1;have:=hM.e.reads.len;have:(E.n:Int)≠(VD:Int):=(by simpa using t1);omega))
  clear hbad hgood hM hL eml
  by_cases hz:0<ml
  ·have hz':decide ((0:Int)<(ml:Int))=true:=by simp;omega
   have hz2:(0:Int)<(ml:Int):=by omega
   go_enter Tryz.func50,Tryz.ntmps50
   go_wp2_with (first
    | (go_at_call 36;refine (k10 _).mono ?_;rintro e W1 ⟨rfl,h1⟩;replace qb:=qb.kept h1;replace qc:=qc.kept h1;replace hb:=bTn hb h1;clear h1 a0 a1 a2 a3 a4 a5 a6 a7 a8 a9 a10 a11 b0 b1 b2 b3 b4 b5 b6 b7;obtain⟨a0,a1,a2,a3,a4,a5,a6,a7,a8,a9,a10,a11⟩:=qb.c12;obtain⟨b0,b1,b2,b3,b4,b5,b6,b7⟩:=qc.cfg))
   refine wp_loop_rounds 1 ?_
   rw[rounds_succ]
   go_wp2
   go_ret
   exact⟨by rw[RB.out];rfl,hb⟩
  ·have hz':decide ((0:Int)<(ml:Int))=false:=by simp;omega
   have hz2:¬(0:Int)<(ml:Int):=by omega
   go_enter Tryz.func50,Tryz.ntmps50
   go_wp2_with (first
    | (go_at_call 36;refine (k10 _).mono ?_;rintro e W1 ⟨rfl,h1⟩;replace qb:=qb.kept h1;replace qc:=qc.kept h1;replace hb:=bTn hb h1;clear h1 a0 a1 a2 a3 a4 a5 a6 a7 a8 a9 a10 a11 b0 b1 b2 b3 b4 b5 b6 b7;obtain⟨a0,a1,a2,a3,a4,a5,a6,a7,a8,a9,a10,a11⟩:=qb.c12;obtain⟨b0,b1,b2,b3,b4,b5,b6,b7⟩:=qc.cfg))
   refine wp_loop_rounds 1 ?_
   rw[rounds_succ]
   go_wp2
   go_ret
   exact⟨by rw[RB.out];rfl,hb⟩
 | true =>
 cases t2:((N.n:Int)==(D:Int)) with
 | false =>
  clear main
  have RB:=hdn (hbad (fun a=>by have:=a.1.2.2.1;have:=hM.nm.reads.len;have:(N.n:Int)≠(D:Int):=(by simpa using t2);omega))
  clear hbad hgood hM hL eml
  by_cases hz:0<ml
  ·have hz':decide ((0:Int)<(ml:Int))=true:=by simp;omega
   have hz2:(0:Int)<(ml:Int):=by omega
   go_enter Tryz.func50,Tryz.ntmps50
   go_wp2_with (first
    | (go_at_call 36;refine (k10 _).mono ?_;rintro e W1 ⟨rfl,h1⟩;replace qb:=qb.kept h1;replace qc:=qc.kept h1;replace hb:=bTn hb h1;clear h1 a0 a1 a2 a3 a4 a5 a6 a7 a8 a9 a10 a11 b0 b1 b2 b3 b4 b5 b6 b7;obtain⟨a0,a1,a2,a3,a4,a5,a6,a7,a8,a9,a10,a11⟩:=qb.c12;obtain⟨b0,b1,b2,b3,b4,b5,b6,b7⟩:=qc.cfg))
   refine wp_loop_rounds 1 ?_
   rw[rounds_succ]
   go_wp2
   go_ret
   exact⟨by rw[RB.out];rfl,hb⟩
  ·have hz':decide ((0:Int)<(ml:Int))=false:=by simp;omega
   have hz2:¬(0:Int)<(ml:Int):=by omega
   go_enter Tryz.func50,Tryz.ntmps50
   go_wp2_with (first
    | (go_at_call 36;refine (k10 _).mono ?_;rintro e W1 ⟨rfl,h1⟩;replace qb:=qb.kept h1;replace qc:=qc.kept h1;replace hb:=bTn hb h1;clear h1 a0 a1 a2 a3 a4 a5 a6 a7 a8 a9 a10 a11 b0 b1 b2 b3 b4 b5 b6 b7;obtain⟨a0,a1,a2,a3,a4,a5,a6,a7,a8,a9,a10,a11⟩:=qb.c12;obtain⟨b0,b1,b2,b3,b4,b5,b6,b7⟩:=qc.cfg))
   refine wp_loop_rounds 1 ?_
   rw[rounds_succ]
   go_wp2
   go_ret
   exact⟨by rw[RB.out];rfl,hb⟩
 | true =>
 cases t3:((O.n:Int)==(VD:Int)) with
 | false =>
  clear main
  have RB:=hdn (hbad (fun a=>by have:=a.1.2.2.2;have:=hM.o.reads.len;have:(O.n:Int)≠(VD:Int):=(by simpa using t3);omega))
  clear hbad hgood hM hL eml
  by_cases hz:0<ml
  ·have hz':decide ((0:Int)<(ml:Int))=true:=by simp;omega
   have hz2:(0:Int)<(ml:Int):=by omega
   go_enter Tryz.func50,Tryz.ntmps50
   go_wp2_with (first
    | (go_at_call 36;refine (k10 _).mono ?_;rintro e W1 ⟨rfl,h1⟩;replace qb:=qb.kept h1;replace qc:=qc.kept h1;replace hb:=bTn hb h1;clear h1 a0 a1 a2 a3 a4 a5 a6 a7 a8 a9 a10 a11 b0 b1 b2 b3 b4 b5 b6 b7;obtain⟨a0,a1,a2,a3,a4,a5,a6,a7,a8,a9,a10,a11⟩:=qb.c12;obtain⟨b0,b1,b2,b3,b4,b5,b6,b7⟩:=qc.cfg))
   refine wp_loop_rounds 1 ?_
   rw[rounds_succ]
   go_wp2
   go_ret
   exact⟨by rw[RB.out];rfl,hb⟩
  ·have hz':decide ((0:Int)<(ml:Int))=false:=by simp;omega
   have hz2:¬(0:Int)<(ml:Int):=by omega
   go_enter Tryz.func50,Tryz.ntmps50
   go_wp2_with (first
    | (go_at_call 36;refine (k10 _).mono ?_;rintro e W1 ⟨rfl,h1⟩;replace qb:=qb.kept h1;replace qc:=qc.kept h1;replace hb:=bTn hb h1;clear h1 a0 a1 a2 a3 a4 a5 a6 a7 a8 a9 a10 a11 b0 b1 b2 b3 b4 b5 b6 b7;obtain⟨a0,a1,a2,a3,a4,a5,a6,a7,a8,a9,a10,a11⟩:=qb.c12;obtain⟨b0,b1,b2,b3,b4,b5,b6,b7⟩:=qc.cfg))
   refine wp_loop_rounds 1 ?_
   rw[rounds_succ]
   go_wp2
   go_ret
   exact⟨by rw[RB.out];rfl,hb⟩
 | true =>
 exact main ⟨by have:(ml:Int)=(lN:Int):=(by simpa using t0);omega,by have:=hM.e.reads.len;have:(E.n:Int)=(VD:Int):=(by simpa using t1);omega,by have:=hM.nm.reads.len;have:(N.n:Int)=(D:Int):=(by simpa using t2);omega,by have:=hM.o.reads.len;have:(O.n:Int)=(VD:Int):=(by simpa using t3);omega⟩ t0 t1 t2 t3
def QcI (i:Nat):Option Nat:=match i with|0=>some 17|1=>some 18|2=>some 19|3=>some 20|4=>some 21|5=>some 22|6=>some 23|7=>some 24|8=>some 25|9=>some 26|_=>none
theorem Qkm:∀ i,i<10→∀ j,j<10→QcI i=QcI j→QcI i≠none→i=j:=by decide
theorem QiE:∀ i,i<10→∀ d,QcI i=some d→d<27:=by
 intro i hi d h
 have:∀ i,i<10→(QcI i).all (fun d=>decide (d<27))=true:=by decide
 have:=this i hi
 rw[h] at this
 simpa using this
def QhB (n c c2 k la lb ka kb:Nat)(x y:Addr)(ra rb:Option Addr)(i:Nat)(q:Value)(w:World):Prop:=match i with
 | 0=>q=.slice (some x) n c
 | 1=>q=I4 (k:Int)
 | 2=>q=.pointer (some (x.add k))
 | 3=>q=.slice ra la ka
 | 4=>q=.slice (some y) n c2
 | 5=>q=I4 (k:Int)
 | 6=>q=.pointer (some (y.add k))
 | 7=>q=.slice rb lb kb
 | 8=>q=.bool true
 | 9=>q=.bool false
 | _=>True
theorem QhA {n c c2 k la lb ka kb:Nat}{x y:Addr}{ra rb:Option Addr}{i:Nat}{q:Value}{w w':World}(h:QhB n c c2 k la lb ka kb x y ra rb i q w)(hb:Bw w w'):QhB n c c2 k la lb ka kb x y ra rb i q w':=by
 unfold QhB at h ⊢
 split
 ·exact h
 ·exact h
 ·exact h
 ·exact h
 ·exact h
 ·exact h
 ·exact h
 ·exact h
 ·exact h
 ·exact h
 ·trivial
theorem Qhz {id:Nat}{ops:Array Oper}{Q:Exit→Act→World→Prop}{a0:Act}{w0:World}(n c c2 k la lb ka kb:Nat)(x y:Addr)(ra rb:Option Addr)(S:World→Prop)(hlow:lowB ops=true)(hsz:ops.size=10)
  (oo:OpS ops 0 17 (.move (.tmp 0)) []∧OpS ops 1 18 (.move (.tmp 5)) []∧OpS ops 2 19 (.indexAddr 31 (.tmp 17) (.tmp 18)) [0,1]∧OpS ops 3 20 (.load 34 (.tmp 19)) [2]∧OpS ops 4 21 (.move (.tmp 1)) []∧OpS ops 5 22 (.move (.tmp 5)) []∧OpS ops 6 23 (.indexAddr 31 (.tmp 21) (.tmp 22)) [4,5]∧OpS ops 7 24 (.load 34 (.tmp 23)) [6]∧OpS ops 8 25 (.call { callee:=.value (.func 14),args:=#[.tmp 20,.tmp 24],argTypes:=#[34,34] }) [3,7]∧OpS ops 9 26 (.unOp .not 4 (.tmp 25)) [8])
  (hS:S w0.drew)
  (x2:∀ w,(Instr.indexAt 31 (.slice (some x) n c) (I4 (k:Int))).run Tryz.prog w=.ok (.pointer (some (x.add k))) w)
  (x3:∀ w,S w→(Instr.loadAt 34 (.pointer (some (x.add k)))).run Tryz.prog w=.ok (.slice ra la ka) w)
  (x6:∀ w,(Instr.indexAt 31 (.slice (some y) n c2) (I4 (k:Int))).run Tryz.prog w=.ok (.pointer (some (y.add k))) w)
  (x7:∀ w,S w→(Instr.loadAt 34 (.pointer (some (y.add k)))).run Tryz.prog w=.ok (.slice rb lb kb) w)
  (x8:∀ w,S w→Calls Tryz.prog 14 #[.slice ra la ka,.slice rb lb kb] w fun e w'=>e=.returned (.bool true)∧Bw w w'∧S w')
  (u0:a0.tmps.getD 0 undef=.slice (some x) n c)
  (u1:a0.tmps.getD 1 undef=.slice (some y) n c2)
  (u5:a0.tmps.getD 5 undef=I4 (k:Int))
  (hs:27≤a0.tmps.size)
  (fin:∀ a w,a.tmps.size=a0.tmps.size→a.defers=a0.defers→(∀ s,(∀ i,i<10→QcI i≠some s)→a.tmps.getD s undef=a0.tmps.getD s undef)→S w→(∀ i d,i<10→QcI i=some d→QhB n c c2 k la lb ka kb x y ra rb i (a.tmps.getD d undef) w)→Q .normal a w):(Code.region id ops true).wp Tryz.prog Q a0 w0:=by
 obtain⟨o0,o1,o2,o3,o4,o5,o6,o7,o8,o9⟩:=oo
 have r14:∀ args w,(callFunc 14 args).run Tryz.prog w=.ok (.enter 14 args) w:=eNo Tryz.func14 (by kernel_rfl) rfl
 refine wRi (by kernel_rfl) hlow (Inv 10 QcI a0 (fun l a w=>S w∧Qbf 10 QcI a0 l a) (fun _=>QhB n c c2 k la lb ka kb x y ra rb)) (Inv.start ⟨hS,QaB _ _ _⟩) ?_ ?_
 ·intro l i o a w ho hl hcl hdep hI
  have hi:i<10:=by rw[←hsz];exact (Array.getElem?_eq_some_iff.1 ho).1
  have ev:∀ (s:Nat),a.eval (.tmp s)=a.tmps.getD s undef:=fun _=>rfl
  have evf:∀ f,a.eval (.func f)=.func (.func f) #[] #[]:=fun _=>rfl
  have evc:∀ c:Value,a.eval (.const c)=c:=fun _=>rfl
  have inj:∀ d,QcI i=some d→∀ j d',j<10→QcI j=some d'→j≠i→d'≠d:=fun d hd j d' hj hd' hne e=>hne (Qkm j hj i hi (by rw[hd',hd,e]) (by rw[hd'];simp))
  have kp:∀ s,(∀ i,i<10→QcI i≠some s)→a.tmps.getD s undef=a0.tmps.getD s undef:=hI.kept
  have hw:S w:=hI.world.1
  have k2:=hI.world.2
  have ex0:=hI.world.2
  have go:∀ {d:Nat}{v:Value}{w':World},QcI i=some d→Bw w w'→S w'→QhB n c c2 k la lb ka kb x y ra rb i v w'→Inv 10 QcI a0 (fun l a w=>S w∧Qbf 10 QcI a0 l a) (fun _=>QhB n c c2 k la lb ka kb x y ra rb) (fun j=>l j || j==i) (a.put (some d) v) w':=by
   intro d v w' hD hb hS' hF
   exact hI.put hi hD (Nat.lt_of_lt_of_le (QiE i hi d hD) hs) (inj d hD) ⟨hS',k2.put hD (by rw[hI.size];exact Nat.lt_of_lt_of_le (QiE i hi d hD) hs) hi⟩ hF (fun j u _ _ _ hf=>QhA hf hb)
  rcases l10 (show i<10 by omega) with rfl|rfl|rfl|rfl|rfl|rfl|rfl|rfl|rfl|rfl
  ·obtain⟨e2,e3,e4,dp⟩:=o0.at_ ho hdep
   have U0:=(kp 0 (by decide)).trans u0
   exact wVa (v:=.slice (some x) n c) (w':=w) ho e4 (by simp[execOp,e3,ev,evc,U0]) (by rw[e2];exact go rfl bR hw rfl)
  ·obtain⟨e2,e3,e4,dp⟩:=o1.at_ ho hdep
   have U5:=(kp 5 (by decide)).trans u5
   exact wVa (v:=I4 (k:Int)) (w':=w) ho e4 (by simp[execOp,e3,ev,evc,U5]) (by rw[e2];exact go rfl bR hw rfl)
  ·obtain⟨e2,e3,e4,dp⟩:=o2.at_ ho hdep
   have V0:tm a 17=_:=hI.vl dp 0 17 rfl rfl
   have V1:tm a 18=_:=hI.vl dp 1 18 rfl rfl
   exact wVa (v:=.pointer (some (x.add k))) (w':=w) ho e4 (by simp[execOp,e3,ev,evc,V0,V1,x2 w]) (by rw[e2];exact go rfl bR hw rfl)
  ·obtain⟨e2,e3,e4,dp⟩:=o3.at_ ho hdep
   have V2:tm a 19=_:=hI.vl dp 2 19 rfl rfl
   exact wVa (v:=.slice ra la ka) (w':=w) ho e4 (by simp[execOp,e3,ev,evc,V2,x3 w hw]) (by rw[e2];exact go rfl bR hw rfl)
  ·obtain⟨e2,e3,e4,dp⟩:=o4.at_ ho hdep
   have U1:=(kp 1 (by decide)).trans u1
   exact wVa (v:=.slice (some y) n c2) (w':=w) ho e4 (by simp[execOp,e3,ev,evc,U1]) (by rw[e2];exact go rfl bR hw rfl)
  ·obtain⟨e2,e3,e4,dp⟩:=o5.at_ ho hdep
   have U5:=(kp 5 (by decide)).trans u5
   exact wVa (v:=I4 (k:Int)) (w':=w) ho e4 (by simp[execOp,e3,ev,evc,U5]) (by rw[e2];exact go rfl bR hw rfl)
  ·obtain⟨e2,e3,e4,dp⟩:=o6.at_ ho hdep
   have V4:tm a 21=_:=hI.vl dp 4 21 rfl rfl
   have V5:tm a 22=_:=hI.vl dp 5 22 rfl rfl
   exact wVa (v:=.pointer (some (y.add k))) (w':=w) ho e4 (by simp[execOp,e3,ev,evc,V4,V5,x6 w]) (by rw[e2];exact go rfl bR hw rfl)
  ·obtain⟨e2,e3,e4,dp⟩:=o7.at_ ho hdep
   have V6:tm a 23=_:=hI.vl dp 6 23 rfl rfl
   exact wVa (v:=.slice rb lb kb) (w':=w) ho e4 (by simp[execOp,e3,ev,evc,V6,x7 w hw]) (by rw[e2];exact go rfl bR hw rfl)
  ·obtain⟨e2,e3,e4,dp⟩:=o8.at_ ho hdep
   have V3:tm a 20=_:=hI.vl dp 3 20 rfl rfl
   have V7:tm a 24=_:=hI.vl dp 7 24 rfl rfl
   refine wCa (f:=14) (args:=#[.slice ra la ka,.slice rb lb kb]) ho e4 (by simp[execOp,e3,resolve,invoke,Deferred.ofValue,r14,ev,evf,evc,V3,V7]) ((x8 w hw).mono ?_)
   rintro e W' ⟨rfl,hb6,hs6⟩
   refine⟨_,rfl,?_⟩
   rw[e2]
   exact go rfl hb6 hs6 rfl
  ·obtain⟨e2,e3,e4,dp⟩:=o9.at_ ho hdep
   have V8:tm a 25=_:=hI.vl dp 8 25 rfl rfl
   exact wVa (v:=.bool false) (w':=w) ho e4 (by simp[execOp,e3,ev,evc,V8,Op.unary]) (by rw[e2];exact go rfl bR hw rfl)
 ·intro l a w hall hI
  have all:∀ j,j<10→l j=true:=fun j hj=>hall j (by rw[hsz];exact hj)
  exact fin a w hI.size hI.defers hI.kept hI.world.1 (fun i d hi hD=>hI.val i d hi hD (all i hi))
theorem Qbj (a:Option Addr)(n c:Nat)(A:Nat→Option Addr)(C:Nat→Nat)(a2:Option Addr)(c2:Nat)(A2:Nat→Option Addr)(C2:Nat→Nat)(R:Nat→List Int)(w:World)(h0:Grid w a n A C R)(h1:Grid w a2 n A2 C2 R) :
  Calls Tryz.prog 25 #[.slice a n c,.slice a2 n c2] w fun e w'=>e=.returned (.bool true)∧Bw w w':=by
 have hm:=h0.max
 have z:((n:Int) != (n:Int))=false:=by simp
 go_enter Tryz.func25,Tryz.ntmps25
 go_wp2
 go_loopw [5] (fun i wr=>∃ k:Nat,k≤n∧i=I4 k∧Bw w wr) (fun i _=>n-(intOf i).toNat)
 case atStart=>exact⟨0,Nat.zero_le _,rfl,Below.refl _ _⟩
 case round =>
  obtain⟨k,hk,rfl,hbr⟩:=hrel
  by_cases hlt:k<n
  ·obtain⟨x,rfl⟩:=h0.some_ (by omega)
   obtain⟨y,rfl⟩:=h1.some_ (by omega)
   go_wp2
   refine Qhz n c c2 k (R k).length (R k).length (C k) (C2 k) x y (A k) (A2 k) (fun W=>Bw wr W) (by kernel_rfl) rfl (by (repeat' apply And.intro)<;>exact⟨_,rfl,rfl,rfl,rfl,by kernel_rfl⟩) bR.drew (QcM x n c k hlt) (fun W hb=>Qdt (((h0.below hbr).below hb).cell x rfl k hlt)) (QcM y n c2 k hlt) (fun W hb=>Qdt (((h1.below hbr).below hb).cell y rfl k hlt)) (fun W hb=>(Qes (A k) _ (C k) (R k) (A2 k) _ (C2 k) W (((h0.below hbr).below hb).row k hlt) (((h1.below hbr).below hb).row k hlt)).mono fun e w' ⟨q1,m,q2⟩=>⟨q1,by rw[q2];exact below_drewN bR m,by rw[q2];exact below_drewN hb m⟩) rfl rfl rfl (Nat.le_of_ble_eq_true rfl) ?_
   intro a W9 hs hd hkp hS9 hval
   have e26:a.tmps.getD 26 undef=.bool false:=hval 9 26 (by decide) rfl
   obtain⟨f,ef,ep⟩:=fPz [17,18,19,20,21,22,23,24,25,26] rfl hs hd hkp
   simp only[ef] at e26
   simp only[List.foldl,e26,Act.put,List.setIfInBounds_toArray,List.set_cons_succ,List.set_cons_zero] at ep
   have H9:=hdn hS9
   clear hs hd hkp hval hS9 e26 ef
   subst ep
   have hb9:=hdn (bTn hbr H9.out)
   clear H9 hbr
   go_wp2
   go_roundw
   case rel=>exact⟨k+1,by omega,by go_num,hb9.out⟩
   case measure=>simp[intOf];omega
  ·have e:n=k:=by omega
   subst e
   go_wp2
   go_ret
   exact⟨rfl,hbr⟩
theorem QgB (d h l v u x t n:Int)(ok:okB d h l v u x t n=false)(sa:Option Addr)(nW cW:Nat)(w:World) :
  Calls Tryz.prog 39 #[.agg (c8 d h l v u x t n),.slice sa nW cW] w fun e w'=>e=.returned (.tuple #[.agg #[I4 0,I4 0,I4 0,I4 0,I4 0,I4 0,I4 0,I4 0,nilS,nilS,nilS,nilS],I4 20])∧Bw w w':=by
 have k10:=Qat d h l v u x t n
 simp only[ok] at k10
 clear ok
 have hb:=bNw (bNw (bS w) (.cells (c8 d h l v u x t n) 23)) (.cells #[I4 0,I4 0,I4 0,I4 0,I4 0,I4 0,I4 0,I4 0,nilS,nilS,nilS,nilS] 27)
 have q0:Blk 23 ((w.alloc (.cells (c8 d h l v u x t n) 23)).alloc (.cells #[I4 0,I4 0,I4 0,I4 0,I4 0,I4 0,I4 0,I4 0,nilS,nilS,nilS,nilS] 27)) w.heap.size (c8 d h l v u x t n):=(Blk.new 23 w _).kept (bNw bR _)
 have qr:Blk 27 ((w.alloc (.cells (c8 d h l v u x t n) 23)).alloc (.cells #[I4 0,I4 0,I4 0,I4 0,I4 0,I4 0,I4 0,I4 0,nilS,nilS,nilS,nilS] 27)) (w.heap.size+1) #[I4 0,I4 0,I4 0,I4 0,I4 0,I4 0,I4 0,I4 0,nilS,nilS,nilS,nilS]:=Blk.new_at 27 (w.alloc _) _ _ (by simp)
 obtain⟨d0,d1,d2,d3,d4,d5,d6,d7⟩:=q0.cfg
 go_enter Tryz.func39,Tryz.ntmps39
 go_wp2_with (first
  | (go_at_call 36;refine (k10 _).mono ?_;rintro e W1 ⟨rfl,h1⟩;replace qr:=qr.kept h1;replace hb:=bTn hb h1;clear h1 k10 d0 d1 d2 d3 d4 d5 d6 d7;obtain⟨z0,z1,z2,z3,z4,z5,z6,z7,z8,z9,z10,z11⟩:=qr.c12;obtain⟨o0,o1,o2,o3,o4,o5,o6,o7,o8,o9,o10,o11⟩:=qr.o12))
 obtain⟨W9,eW9,q9',only9,hz9⟩:=Qe8 qr (I4 0) (I4 0) (I4 0) (I4 0) (I4 0) (I4 0) (I4 0) (I4 0) nilS nilS nilS nilS
 rw[eW9]
 refine bodyPost_ret (v:=.tuple #[.agg #[I4 0,I4 0,I4 0,I4 0,I4 0,I4 0,I4 0,I4 0,nilS,nilS,nilS,nilS],I4 20]) ?_ rfl ⟨rfl,Only.below hb (by omega) hb.size only9⟩
 obtain⟨y0,y1,y2,y3,y4,y5,y6,y7,y8,y9,y10,y11⟩:=q9'.c12
 simp[results,Tryz.results39,go_sem,y0,y1,y2,y3,y4,y5,y6,y7,y8,y9,y10,y11]
theorem Qgz (d h l v u x t n:Int)(ok:okB d h l v u x t n=true)(sa:Option Addr)(nW cW:Nat)(hlen:(nW:Int)≠szZ d l v u x)(w:World) :
  Calls Tryz.prog 39 #[.agg (c8 d h l v u x t n),.slice sa nW cW] w fun e w'=>e=.returned (.tuple #[.agg #[I4 0,I4 0,I4 0,I4 0,I4 0,I4 0,I4 0,I4 0,nilS,nilS,nilS,nilS],I4 21])∧Bw w w':=by
 have k10:=Qat d h l v u x t n
 have k12:=QbH d h l v u x t n
 simp only[ok] at k10
 have es:Qe7 d h l v u x t n=szZ d l v u x:=by unfold Qe7;rw[ok];rfl
 simp only[es] at k12
 obtain⟨Z,eZ⟩:∃ Z,szZ d l v u x=Z:=⟨_,rfl⟩
 rw[eZ] at hlen
 simp only[eZ] at k12
 have hZ:((nW:Int)==Z)=false:=by simp[hlen]
 have hZ2:((nW:Int) != Z)=true:=by simp[hlen]
 clear ok es eZ
 have hb:=bNw (bNw (bS w) (.cells (c8 d h l v u x t n) 23)) (.cells #[I4 0,I4 0,I4 0,I4 0,I4 0,I4 0,I4 0,I4 0,nilS,nilS,nilS,nilS] 27)
 have q0:Blk 23 ((w.alloc (.cells (c8 d h l v u x t n) 23)).alloc (.cells #[I4 0,I4 0,I4 0,I4 0,I4 0,I4 0,I4 0,I4 0,nilS,nilS,nilS,nilS] 27)) w.heap.size (c8 d h l v u x t n):=(Blk.new 23 w _).kept (bNw bR _)
 have qr:Blk 27 ((w.alloc (.cells (c8 d h l v u x t n) 23)).alloc (.cells #[I4 0,I4 0,I4 0,I4 0,I4 0,I4 0,I4 0,I4 0,nilS,nilS,nilS,nilS] 27)) (w.heap.size+1) #[I4 0,I4 0,I4 0,I4 0,I4 0,I4 0,I4 0,I4 0,nilS,nilS,nilS,nilS]:=Blk.new_at 27 (w.alloc _) _ _ (by simp)
 obtain⟨d0,d1,d2,d3,d4,d5,d6,d7⟩:=q0.cfg
 go_enter Tryz.func39,Tryz.ntmps39
 go_wp2_with (first
  | (go_at_call 36;refine (k10 _).mono ?_;rintro e W1 ⟨rfl,h1⟩;replace q0:=q0.kept h1;replace qr:=qr.kept h1;replace hb:=bTn hb h1;clear h1 k10 d0 d1 d2 d3 d4 d5 d6 d7;obtain⟨d0,d1,d2,d3,d4,d5,d6,d7⟩:=q0.cfg)
  | (go_at_call 41;refine (k12 _).mono ?_;rintro e W2 ⟨rfl,h2⟩;replace qr:=qr.kept h2;replace hb:=bTn hb h2;clear h2 k12 d0 d1 d2 d3 d4 d5 d6 d7;obtain⟨z0,z1,z2,z3,z4,z5,z6,z7,z8,z9,z10,z11⟩:=qr.c12;obtain⟨o0,o1,o2,o3,o4,o5,o6,o7,o8,o9,o10,o11⟩:=qr.o12))
 obtain⟨W9,eW9,q9',only9,hz9⟩:=Qe8 qr (I4 0) (I4 0) (I4 0) (I4 0) (I4 0) (I4 0) (I4 0) (I4 0) nilS nilS nilS nilS
 rw[eW9]
 refine bodyPost_ret (v:=.tuple #[.agg #[I4 0,I4 0,I4 0,I4 0,I4 0,I4 0,I4 0,I4 0,nilS,nilS,nilS,nilS],I4 21]) ?_ rfl ⟨rfl,Only.below hb (by omega) hb.size only9⟩
 obtain⟨y0,y1,y2,y3,y4,y5,y6,y7,y8,y9,y10,y11⟩:=q9'.c12
 simp[results,Tryz.results39,go_sem,y0,y1,y2,y3,y4,y5,y6,y7,y8,y9,y10,y11]
theorem QfJ (d h l v u x t n:Int)(ok:okB d h l v u x t n=true)(xa:Addr)(nW cW:Nat)(ws:List Int)(w:World)(rd:Reads .i8 w (some xa) nW ws)(hc:nW≤cW)(hlen:(nW:Int)=szZ d l v u x) :
  Calls Tryz.prog 39 #[.agg (c8 d h l v u x t n),.slice (some xa) nW cW] w fun e w'=>∃ E L N O:SL,∃ Y U D',e=.returned (.tuple #[.agg #[I4 d,I4 h,I4 l,I4 v,I4 u,I4 x,I4 t,I4 n,E.w,L.w,N.w,O.w],I4 0])∧NewM w.heap.size w' E L N O Y U D' (Qcb d l v u x ws)∧Bw w w':=by
 have dm:=Qb9 ok
 have k10:=Qat d h l v u x t n
 have k12:=QbH d h l v u x t n
 simp only[ok] at k10
 have es:Qe7 d h l v u x t n=(nW:Int):=by unfold Qe7;rw[ok,hlen];rfl
 simp only[es] at k12
 have hfit:nW=offs (Qco d l v u x) (allT l x):=by have:=dm.sz;omega
 have hxa:xa.block<w.heap.size:=by
  have c:=rd.cell xa rfl 0 (by have:=dm.sz0;omega)
  have:=World.block_lt_of_cell? _ _ c
  simpa [Addr.add] using this
 have hx:x=0∨2≤x:=by
  unfold okB Qak at ok
  simp only[Bool.and_eq_true,decide_eq_true_eq] at ok
  omega
 rcases hx with hx|hx
 ·have n1:netsN x=1:=by unfold netsN;rw[hx];rfl
  have hf1:=hfit
  unfold Qco allT at hf1
  rw[n1] at hf1
  have key:=QgA h v u x t n d.toNat (d*d).toNat (x*d).toNat (u*d).toNat (v*d).toNat l.toNat nW cW xa ws (by rw[←dm.ed];exact dm.e1) (by rw[←dm.ed];exact dm.e2) (by rw[←dm.ed];exact dm.e3) (by rw[←dm.ed];exact dm.e4) (by rw[←dm.ed,Int.mul_comm];exact dm.e4) (by omega)
   dm.b0 dm.b1 dm.b2 dm.b3 dm.b4 dm.l1 w (by rw[←dm.ed,←dm.el];exact k10) (by rw[←dm.ed,←dm.el];exact k12) rd hc (by have:=dm.sz1;omega) hf1.symm hxa
  rw[←dm.ed,←dm.el] at key
  unfold Qcb Qco
  rw[n1]
  exact key
 ·have en:x=(netsN x:Int):=by have:=dm.en;omega
  have hf1:=hfit
  unfold Qco allT at hf1
  have key:=QfI h v u t n d.toNat (d*d).toNat (x*d).toNat (u*d).toNat (v*d).toNat (netsN x) l.toNat nW cW xa ws (by rw[←dm.ed];exact dm.e1) (by rw[←dm.ed];exact dm.e2) (by rw[←dm.ed,←en];exact dm.e3) (by rw[←dm.ed];exact dm.e4) (by rw[←dm.ed,Int.mul_comm];exact dm.e4) (by omega) dm.n1
   dm.b0 dm.b1 dm.b2 dm.b3 dm.b4 dm.l1 w (by rw[←dm.ed,←dm.el,←en];exact k10) (by rw[←dm.ed,←dm.el,←en];exact k12) rd hc (by have:=dm.sz1;omega) hf1.symm hxa
  rw[←dm.ed,←dm.el,←en] at key
  exact key
def shG (d h l v u x t n:Int)(zs:List Int):Bool:=okB d h l v u x t n && decide ((zs.length:Int)=szZ d l v u x)
def shC (g:Bool)(z:Int):Int:=if g then z else 0
def shE (d h l v u x t n:Int)(zs:List Int):Int:=if okB d h l v u x t n then (if (zs.length:Int)=szZ d l v u x then 0 else 21) else 20
def shM (d h l v u x t n:Int)(zs:List Int):ModV:=if shG d h l v u x t n zs then Qcb d l v u x zs else noV
theorem QdP (d h l v u x t n:Int)(s:SL)(zs:List Int)(w:World)(hs:IsS w s zs) :
  Calls Tryz.prog 39 #[.agg (c8 d h l v u x t n),.slice s.a s.n s.c] w fun e w'=>∃ E L N O:SL,∃ Y U D',e=.returned (.tuple #[.agg #[I4 (shC (shG d h l v u x t n zs) d),I4 (shC (shG d h l v u x t n zs) h),I4 (shC (shG d h l v u x t n zs) l),I4 (shC (shG d h l v u x t n zs) v),I4 (shC (shG d h l v u x t n zs) u),I4 (shC (shG d h l v u x t n zs) x),I4 (shC (shG d h l v u x t n zs) t),I4 (shC (shG d h l v u x t n zs) n),.slice E.a E.n E.c,.slice L.a L.n L.c,.slice N.a N.n N.c,.slice O.a O.n O.c],I4 (shE d h l v u x t n zs)])∧NewM w.heap.size w' E L N O Y U D' (shM d h l v u x t n zs)∧Bw w w':=by
 have hlen:=hs.reads.len
 cases ok:okB d h l v u x t n with
 | false =>
  have e1:(shG d h l v u x t n zs)=false:=by unfold shG;rw[ok];rfl
  have e2:shE d h l v u x t n zs=20:=by unfold shE;rw[ok];rfl
  have e3:shM d h l v u x t n zs=noV:=by unfold shM;rw[e1];rfl
  have e4:∀ z,shC (shG d h l v u x t n zs) z=0:=fun z=>by unfold shC;rw[e1];rfl
  simp only[e2,e3,e4]
  exact (QgB d h l v u x t n ok s.a s.n s.c w).mono fun e w' hh=>⟨⟨none,0,0⟩,⟨none,0,0⟩,⟨none,0,0⟩,⟨none,0,0⟩,fun _ _=>SL.nought,fun _ _=>SL.nought,fun _ _=>SL.nought,hh.1,NewM.none_ _ _ _ _ _,hh.2⟩
 | true =>
  by_cases hl:(zs.length:Int)=szZ d l v u x
  ·have e1:(shG d h l v u x t n zs)=true:=by unfold shG;rw[ok];simp[hl]
   have e2:shE d h l v u x t n zs=0:=by unfold shE;rw[ok];simp[hl]
   have e3:shM d h l v u x t n zs=Qcb d l v u x zs:=by unfold shM;rw[e1];rfl
   have e4:∀ z,shC (shG d h l v u x t n zs) z=z:=fun z=>by unfold shC;rw[e1];rfl
   simp only[e2,e3,e4]
   have dm:=Qb9 ok
   obtain⟨xa,hx⟩:=hs.reads.some_ (by have:=dm.sz;have:=dm.sz0;omega)
   have hr:=hs.reads
   have hc:=hs.cap
   rw[hx] at hr ⊢
   exact QfJ d h l v u x t n ok xa s.n s.c zs w hr hc (by omega)
  ·have e1:(shG d h l v u x t n zs)=false:=by unfold shG;rw[ok];simp[hl]
   have e2:shE d h l v u x t n zs=21:=by unfold shE;rw[ok];simp[hl]
   have e3:shM d h l v u x t n zs=noV:=by unfold shM;rw[e1];rfl
   have e4:∀ z,shC (shG d h l v u x t n zs) z=0:=fun z=>by unfold shC;rw[e1];rfl
   simp only[e2,e3,e4]
   exact (Qgz d h l v u x t n ok s.a s.n s.c (by omega) w).mono fun e w' hh=>⟨⟨none,0,0⟩,⟨none,0,0⟩,⟨none,0,0⟩,⟨none,0,0⟩,fun _ _=>SL.nought,fun _ _=>SL.nought,fun _ _=>SL.nought,hh.1,NewM.none_ _ _ _ _ _,hh.2⟩
end Go.Proofs.YthliomlmhfjhnaaGreat
