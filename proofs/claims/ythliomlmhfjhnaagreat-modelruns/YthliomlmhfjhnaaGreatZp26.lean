/- Texts put together. -/
import Derived.Test.YthliomlmhfjhnaaGreatZp21
import Derived.Test.YthliomlmhfjhnaaGreatZp18
namespace Go.Proofs.YthliomlmhfjhnaaGreat
set_option maxRecDepth 20000
set_option maxHeartbeats 16000000
open Go.ChangeShapes Go.WideShapes Go.ChangeAt Go.RowKit
set_option linter.unusedVariables false
set_option linter.unusedSimpArgs false
theorem Blk.c9 {t0:TypeId}{w:World}{b:Nat}{x0 x1 x2 x3 x4 x5 x6 x7 x8:Value}(k:Blk t0 w b #[x0,x1,x2,x3,x4,x5,x6,x7,x8]):w.cell? ⟨b,0,none⟩=some x0∧w.cell? ⟨b,1,none⟩=some x1∧w.cell? ⟨b,2,none⟩=some x2∧w.cell? ⟨b,3,none⟩=some x3∧w.cell? ⟨b,4,none⟩=some x4∧w.cell? ⟨b,5,none⟩=some x5∧w.cell? ⟨b,6,none⟩=some x6∧w.cell? ⟨b,7,none⟩=some x7∧w.cell? ⟨b,8,none⟩=some x8 :=
 ⟨k.cell 0 rfl,k.cell 1 rfl,k.cell 2 rfl,k.cell 3 rfl,k.cell 4 rfl,k.cell 5 rfl,k.cell 6 rfl,k.cell 7 rfl,k.cell 8 rfl⟩
theorem set8 {t:TypeId}{W:World}{b:Nat}{x0 x1 x2 x3 x4 x5 x6 x7:Value}(h:Blk t W b #[x0,x1,x2,x3,x4,x5,x6,x7])(v0 v1 v2 v3 v4 v5 v6 v7:Value) :
  ∃ W',((((((((W.setCell ⟨b,0,none⟩ v0).setCell ⟨b,1,none⟩ v1).setCell ⟨b,2,none⟩ v2).setCell ⟨b,3,none⟩ v3).setCell ⟨b,4,none⟩ v4).setCell ⟨b,5,none⟩ v5).setCell ⟨b,6,none⟩ v6).setCell ⟨b,7,none⟩ v7)=W'∧Blk t W' b #[v0,v1,v2,v3,v4,v5,v6,v7]∧Only b W W'∧W'.heap.size=W.heap.size:=by
 have z0:W.heap.size=W.heap.size:=rfl
 have s1:Blk t (W.setCell ⟨b,0,none⟩ v0) b #[v0,x1,x2,x3,x4,x5,x6,x7]:=h.set 0 v0
 have n1:=(Only.set b 0 W v0)
 have z1:(W.setCell ⟨b,0,none⟩ v0).heap.size=W.heap.size:=(by simp[World.setCell]:_=W.heap.size).trans z0
 obtain⟨W1,e1⟩:∃ W1,W.setCell ⟨b,0,none⟩ v0=W1:=⟨_,rfl⟩
 rw[e1] at s1 n1 z1 ⊢
 have s2:Blk t (W1.setCell ⟨b,1,none⟩ v1) b #[v0,v1,x2,x3,x4,x5,x6,x7]:=s1.set 1 v1
 have n2:=n1.trans (Only.set b 1 W1 v1)
 have z2:(W1.setCell ⟨b,1,none⟩ v1).heap.size=W.heap.size:=(by simp[World.setCell]:_=W1.heap.size).trans z1
 obtain⟨W2,e2⟩:∃ W2,W1.setCell ⟨b,1,none⟩ v1=W2:=⟨_,rfl⟩
 rw[e2] at s2 n2 z2 ⊢
 have s3:Blk t (W2.setCell ⟨b,2,none⟩ v2) b #[v0,v1,v2,x3,x4,x5,x6,x7]:=s2.set 2 v2
 have n3:=n2.trans (Only.set b 2 W2 v2)
 have z3:(W2.setCell ⟨b,2,none⟩ v2).heap.size=W.heap.size:=(by simp[World.setCell]:_=W2.heap.size).trans z2
 obtain⟨W3,e3⟩:∃ W3,W2.setCell ⟨b,2,none⟩ v2=W3:=⟨_,rfl⟩
 rw[e3] at s3 n3 z3 ⊢
 have s4:Blk t (W3.setCell ⟨b,3,none⟩ v3) b #[v0,v1,v2,v3,x4,x5,x6,x7]:=s3.set 3 v3
 have n4:=n3.trans (Only.set b 3 W3 v3)
 have z4:(W3.setCell ⟨b,3,none⟩ v3).heap.size=W.heap.size:=(by simp[World.setCell]:_=W3.heap.size).trans z3
 obtain⟨W4,e4⟩:∃ W4,W3.setCell ⟨b,3,none⟩ v3=W4:=⟨_,rfl⟩
 rw[e4] at s4 n4 z4 ⊢
 have s5:Blk t (W4.setCell ⟨b,4,none⟩ v4) b #[v0,v1,v2,v3,v4,x5,x6,x7]:=s4.set 4 v4
 have n5:=n4.trans (Only.set b 4 W4 v4)
 have z5:(W4.setCell ⟨b,4,none⟩ v4).heap.size=W.heap.size:=(by simp[World.setCell]:_=W4.heap.size).trans z4
 obtain⟨W5,e5⟩:∃ W5,W4.setCell ⟨b,4,none⟩ v4=W5:=⟨_,rfl⟩
 rw[e5] at s5 n5 z5 ⊢
 have s6:Blk t (W5.setCell ⟨b,5,none⟩ v5) b #[v0,v1,v2,v3,v4,v5,x6,x7]:=s5.set 5 v5
 have n6:=n5.trans (Only.set b 5 W5 v5)
 have z6:(W5.setCell ⟨b,5,none⟩ v5).heap.size=W.heap.size:=(by simp[World.setCell]:_=W5.heap.size).trans z5
 obtain⟨W6,e6⟩:∃ W6,W5.setCell ⟨b,5,none⟩ v5=W6:=⟨_,rfl⟩
 rw[e6] at s6 n6 z6 ⊢
 have s7:Blk t (W6.setCell ⟨b,6,none⟩ v6) b #[v0,v1,v2,v3,v4,v5,v6,x7]:=s6.set 6 v6
 have n7:=n6.trans (Only.set b 6 W6 v6)
 have z7:(W6.setCell ⟨b,6,none⟩ v6).heap.size=W.heap.size:=(by simp[World.setCell]:_=W6.heap.size).trans z6
 obtain⟨W7,e7⟩:∃ W7,W6.setCell ⟨b,6,none⟩ v6=W7:=⟨_,rfl⟩
 rw[e7] at s7 n7 z7 ⊢
 have s8:Blk t (W7.setCell ⟨b,7,none⟩ v7) b #[v0,v1,v2,v3,v4,v5,v6,v7]:=s7.set 7 v7
 have n8:=n7.trans (Only.set b 7 W7 v7)
 have z8:(W7.setCell ⟨b,7,none⟩ v7).heap.size=W.heap.size:=(by simp[World.setCell]:_=W7.heap.size).trans z7
 obtain⟨W8,e8⟩:∃ W8,W7.setCell ⟨b,7,none⟩ v7=W8:=⟨_,rfl⟩
 rw[e8] at s8 n8 z8 ⊢
 exact⟨_,rfl,s8,n8,z8⟩
theorem set9 {t:TypeId}{W:World}{b:Nat}{x0 x1 x2 x3 x4 x5 x6 x7 x8:Value}(h:Blk t W b #[x0,x1,x2,x3,x4,x5,x6,x7,x8])(v0 v1 v2 v3 v4 v5 v6 v7 v8:Value) :
  ∃ W',(((((((((W.setCell ⟨b,0,none⟩ v0).setCell ⟨b,1,none⟩ v1).setCell ⟨b,2,none⟩ v2).setCell ⟨b,3,none⟩ v3).setCell ⟨b,4,none⟩ v4).setCell ⟨b,5,none⟩ v5).setCell ⟨b,6,none⟩ v6).setCell ⟨b,7,none⟩ v7).setCell ⟨b,8,none⟩ v8)=W'∧Blk t W' b #[v0,v1,v2,v3,v4,v5,v6,v7,v8]∧Only b W W'∧W'.heap.size=W.heap.size:=by
 have z0:W.heap.size=W.heap.size:=rfl
 have s1:Blk t (W.setCell ⟨b,0,none⟩ v0) b #[v0,x1,x2,x3,x4,x5,x6,x7,x8]:=h.set 0 v0
 have n1:=(Only.set b 0 W v0)
 have z1:(W.setCell ⟨b,0,none⟩ v0).heap.size=W.heap.size:=(by simp[World.setCell]:_=W.heap.size).trans z0
 obtain⟨W1,e1⟩:∃ W1,W.setCell ⟨b,0,none⟩ v0=W1:=⟨_,rfl⟩
 rw[e1] at s1 n1 z1 ⊢
 have s2:Blk t (W1.setCell ⟨b,1,none⟩ v1) b #[v0,v1,x2,x3,x4,x5,x6,x7,x8]:=s1.set 1 v1
 have n2:=n1.trans (Only.set b 1 W1 v1)
 have z2:(W1.setCell ⟨b,1,none⟩ v1).heap.size=W.heap.size:=(by simp[World.setCell]:_=W1.heap.size).trans z1
 obtain⟨W2,e2⟩:∃ W2,W1.setCell ⟨b,1,none⟩ v1=W2:=⟨_,rfl⟩
 rw[e2] at s2 n2 z2 ⊢
 have s3:Blk t (W2.setCell ⟨b,2,none⟩ v2) b #[v0,v1,v2,x3,x4,x5,x6,x7,x8]:=s2.set 2 v2
 have n3:=n2.trans (Only.set b 2 W2 v2)
 have z3:(W2.setCell ⟨b,2,none⟩ v2).heap.size=W.heap.size:=(by simp[World.setCell]:_=W2.heap.size).trans z2
 obtain⟨W3,e3⟩:∃ W3,W2.setCell ⟨b,2,none⟩ v2=W3:=⟨_,rfl⟩
 rw[e3] at s3 n3 z3 ⊢
 have s4:Blk t (W3.setCell ⟨b,3,none⟩ v3) b #[v0,v1,v2,v3,x4,x5,x6,x7,x8]:=s3.set 3 v3
 have n4:=n3.trans (Only.set b 3 W3 v3)
 have z4:(W3.setCell ⟨b,3,none⟩ v3).heap.size=W.heap.size:=(by simp[World.setCell]:_=W3.heap.size).trans z3
 obtain⟨W4,e4⟩:∃ W4,W3.setCell ⟨b,3,none⟩ v3=W4:=⟨_,rfl⟩
 rw[e4] at s4 n4 z4 ⊢
 have s5:Blk t (W4.setCell ⟨b,4,none⟩ v4) b #[v0,v1,v2,v3,v4,x5,x6,x7,x8]:=s4.set 4 v4
 have n5:=n4.trans (Only.set b 4 W4 v4)
 have z5:(W4.setCell ⟨b,4,none⟩ v4).heap.size=W.heap.size:=(by simp[World.setCell]:_=W4.heap.size).trans z4
 obtain⟨W5,e5⟩:∃ W5,W4.setCell ⟨b,4,none⟩ v4=W5:=⟨_,rfl⟩
 rw[e5] at s5 n5 z5 ⊢
 have s6:Blk t (W5.setCell ⟨b,5,none⟩ v5) b #[v0,v1,v2,v3,v4,v5,x6,x7,x8]:=s5.set 5 v5
 have n6:=n5.trans (Only.set b 5 W5 v5)
 have z6:(W5.setCell ⟨b,5,none⟩ v5).heap.size=W.heap.size:=(by simp[World.setCell]:_=W5.heap.size).trans z5
 obtain⟨W6,e6⟩:∃ W6,W5.setCell ⟨b,5,none⟩ v5=W6:=⟨_,rfl⟩
 rw[e6] at s6 n6 z6 ⊢
 have s7:Blk t (W6.setCell ⟨b,6,none⟩ v6) b #[v0,v1,v2,v3,v4,v5,v6,x7,x8]:=s6.set 6 v6
 have n7:=n6.trans (Only.set b 6 W6 v6)
 have z7:(W6.setCell ⟨b,6,none⟩ v6).heap.size=W.heap.size:=(by simp[World.setCell]:_=W6.heap.size).trans z6
 obtain⟨W7,e7⟩:∃ W7,W6.setCell ⟨b,6,none⟩ v6=W7:=⟨_,rfl⟩
 rw[e7] at s7 n7 z7 ⊢
 have s8:Blk t (W7.setCell ⟨b,7,none⟩ v7) b #[v0,v1,v2,v3,v4,v5,v6,v7,x8]:=s7.set 7 v7
 have n8:=n7.trans (Only.set b 7 W7 v7)
 have z8:(W7.setCell ⟨b,7,none⟩ v7).heap.size=W.heap.size:=(by simp[World.setCell]:_=W7.heap.size).trans z7
 obtain⟨W8,e8⟩:∃ W8,W7.setCell ⟨b,7,none⟩ v7=W8:=⟨_,rfl⟩
 rw[e8] at s8 n8 z8 ⊢
 have s9:Blk t (W8.setCell ⟨b,8,none⟩ v8) b #[v0,v1,v2,v3,v4,v5,v6,v7,v8]:=s8.set 8 v8
 have n9:=n8.trans (Only.set b 8 W8 v8)
 have z9:(W8.setCell ⟨b,8,none⟩ v8).heap.size=W.heap.size:=(by simp[World.setCell]:_=W8.heap.size).trans z8
 obtain⟨W9,e9⟩:∃ W9,W8.setCell ⟨b,8,none⟩ v8=W9:=⟨_,rfl⟩
 rw[e9] at s9 n9 z9 ⊢
 exact⟨_,rfl,s9,n9,z9⟩
theorem Blk.o9 {t0:TypeId}{w:World}{b:Nat}{cs:Array Value}(k:Blk t0 w b cs):w.frozen? ⟨b,0,none⟩=false∧w.frozen? ⟨b,1,none⟩=false∧w.frozen? ⟨b,2,none⟩=false∧w.frozen? ⟨b,3,none⟩=false∧w.frozen? ⟨b,4,none⟩=false∧w.frozen? ⟨b,5,none⟩=false∧w.frozen? ⟨b,6,none⟩=false∧w.frozen? ⟨b,7,none⟩=false∧w.frozen? ⟨b,8,none⟩=false:=⟨k.open_ 0,k.open_ 1,k.open_ 2,k.open_ 3,k.open_ 4,k.open_ 5,k.open_ 6,k.open_ 7,k.open_ 8⟩
theorem Blk.c8 {t0:TypeId}{w:World}{b:Nat}{x0 x1 x2 x3 x4 x5 x6 x7:Value}(k:Blk t0 w b #[x0,x1,x2,x3,x4,x5,x6,x7]):w.cell? ⟨b,0,none⟩=some x0∧w.cell? ⟨b,1,none⟩=some x1∧w.cell? ⟨b,2,none⟩=some x2∧w.cell? ⟨b,3,none⟩=some x3∧w.cell? ⟨b,4,none⟩=some x4∧w.cell? ⟨b,5,none⟩=some x5∧w.cell? ⟨b,6,none⟩=some x6∧w.cell? ⟨b,7,none⟩=some x7:=⟨k.cell 0 rfl,k.cell 1 rfl,k.cell 2 rfl,k.cell 3 rfl,k.cell 4 rfl,k.cell 5 rfl,k.cell 6 rfl,k.cell 7 rfl⟩
theorem QcQ (w:World):(Instr.alloc 23 true (.tuple #[])).run Tryz.prog w=.ok (Pt w.heap.size) (w.alloc (.cells z8 23)):=by go_simp
theorem QcP (w:World):(Instr.alloc 65 true (.tuple #[])).run Tryz.prog w=.ok (Pt w.heap.size) (w.alloc (.cells z9 65)):=by go_simp
theorem QcK {w:World}{b:Nat}(q:Blk 23 w b z8)(d h l v u x t n:Int):∃ w',(Instr.storeAt 23 (Pt b) (.agg (c8 d h l v u x t n))).run Tryz.prog w=.ok () w'∧Blk 23 w' b (c8 d h l v u x t n)∧Only b w w':=by
 obtain⟨c0,c1,c2,c3,c4,c5,c6,c7⟩:=q.c8
 obtain⟨o0,o1,o2,o3,o4,o5,o6,o7,-⟩:=q.o9
 obtain⟨W2,eW,q2,only,hz⟩:=set8 q (I4 d) (I4 h) (I4 l) (I4 v) (I4 u) (I4 x) (I4 t) (I4 n)
 exact⟨W2,by rw[←eW];go_simp,q2,only⟩
theorem QcJ {w:World}{b:Nat}(q:Blk 65 w b z9)(y:Nat→SL):∃ w',(Instr.storeAt 65 (Pt b) (.agg (y9 y))).run Tryz.prog w=.ok () w'∧Blk 65 w' b (y9 y)∧Only b w w':=by
 obtain⟨c0,c1,c2,c3,c4,c5,c6,c7,c8⟩:=q.c9
 obtain⟨o0,o1,o2,o3,o4,o5,o6,o7,o8⟩:=q.o9
 obtain⟨W2,eW,q2,only,hz⟩:=set9 q ((y 0).w) ((y 1).w) ((y 2).w) ((y 3).w) ((y 4).w) ((y 5).w) ((y 6).w) ((y 7).w) ((y 8).w)
 exact⟨W2,by rw[←eW];go_simp,q2,only⟩
theorem Qds {w:World}{p:Addr}{y:Nat→SL}(h:∀ j,j<9→w.cell? (p.add j)=some (y j).v):(Instr.loadAt 65 (.pointer (some p))).run Tryz.prog w=.ok (.agg (y9 y)) w:=by
 have c0:w.cell? (p.add 0)=some ((y 0).w):=h 0 (by omega)
 have c1:w.cell? (p.add 1)=some ((y 1).w):=h 1 (by omega)
 have c2:w.cell? (p.add 2)=some ((y 2).w):=h 2 (by omega)
 have c3:w.cell? (p.add 3)=some ((y 3).w):=h 3 (by omega)
 have c4:w.cell? (p.add 4)=some ((y 4).w):=h 4 (by omega)
 have c5:w.cell? (p.add 5)=some ((y 5).w):=h 5 (by omega)
 have c6:w.cell? (p.add 6)=some ((y 6).w):=h 6 (by omega)
 have c7:w.cell? (p.add 7)=some ((y 7).w):=h 7 (by omega)
 have c8:w.cell? (p.add 8)=some ((y 8).w):=h 8 (by omega)
 simp only[Addr.add_zero',Addr.add_succ'] at c0 c1 c2 c3 c4 c5 c6 c7 c8
 go_simp
theorem Qaw (b f:Nat)(o:Nat)(hf:(f=0∧o=0)∨(f=1∧o=8)∨(f=2∧o=9)∨(f=3∧o=10)∨(f=4∧o=11))(w:World):(Instr.fieldAt 27 (Pt b) f).run Tryz.prog w=.ok (.pointer (some ⟨b,o,none⟩)) w:=by
 rcases hf with⟨rfl,rfl⟩|⟨rfl,rfl⟩|⟨rfl,rfl⟩|⟨rfl,rfl⟩|⟨rfl,rfl⟩<;>go_simp
theorem Qdu {w:World}{p:Addr}{a:Option Addr}{n c:Nat}(h:w.cell? p=some (.slice a n c)):(Instr.loadAt 25 (.pointer (some p))).run Tryz.prog w=.ok (.slice a n c) w:=by go_simp
theorem QcN {x:Addr}{n c k:Nat}(h:k<n)(w:World):(Instr.indexAt 25 (.slice (some x) n c) (I4 k)).run Tryz.prog w=.ok (.pointer (some (x.add (k*9)))) w:=by
 have h':(k:Int)<(n:Int):=by omega
 go_simp
theorem Qck {w:World}{b:Nat}{d h l v u x t n:Int}{s0 s1 s2 s3:Value}(q:Blk 27 w b #[I4 d,I4 h,I4 l,I4 v,I4 u,I4 x,I4 t,I4 n,s0,s1,s2,s3]):(Instr.loadAt 23 (Pt b)).run Tryz.prog w=.ok (.agg (c8 d h l v u x t n)) w:=by
 obtain⟨c0,c1,c2,c3,c4,c5,c6,c7,c8,c9,c10,c11⟩:=q.c12
 go_simp
theorem Blk.apart {t t':TypeId}{w:World}{b b':Nat}{cs cs':Array Value}(q:Blk t w b cs)(q':Blk t' w b' cs')(h:t≠t'):b≠b':=fun e=>by
 subst e
 have:=Option.some.inj ((show w.heap[b]? = _ from q).symm.trans (show w.heap[b]? = _ from q'))
 simp only[Obj.cells.injEq] at this
 exact h this.2.1
def Qc0 (d h l v u x t n:Int):Int:=if okB d h l v u x t n then 2*d*l else 0
theorem QdH {d h l v u x t n:Int}(ok:okB d h l v u x t n=true):0≤2*d∧2*d≤16∧0≤2*d*l∧2*d*l≤32:=by
 have r:=Qbk ok
 have d0:=r.d0;have d1:=r.d1;have l0:=r.l0;have l1:=r.l1
 have p:=Qah (show 0≤2*d by omega) (show 2*d≤16 by omega) (show 0≤l by omega) l1
 exact⟨by omega,by omega,p.1,by omega⟩
theorem QiR (d h l v u x t n:Int)(w:World):Calls Tryz.prog 15 #[.agg (c8 d h l v u x t n)] w fun e w'=>e=.returned (I4 (Qc0 d h l v u x t n))∧Bw w w':=by
 have kc:=QcU d h l v u x t n
 have hnot:∀ (x:Bool) (w:World),(Op.unary .not (.bool x)).run Tryz.prog w=.ok (.bool (!x)) w:=fun _ _=>rfl
 have hb:=bNw (bS w) (.cells (c8 d h l v u x t n) 23)
 have q:=Blk.new 23 w (c8 d h l v u x t n)
 unfold Qc0
 cases ok:okB d h l v u x t n with
 | false =>
  simp only[ok] at kc
  go_enter Tryz.func15,Tryz.ntmps15
  go_wp2_with (go_at_call 35;refine (kc _).mono ?_;rintro e W1 ⟨rfl,h1⟩;replace hb:=bTn hb h1)
  go_ret
  exact⟨rfl,hb⟩
 | true =>
  simp only[ok] at kc
  have wb:=QdH ok
  obtain⟨p0,p1,p2,p3⟩:=wb
  obtain⟨p,ep⟩:∃ p,2*d*l=p:=⟨_,rfl⟩
  rw[ep] at p2 p3
  have HQ:=hdn q
  clear q
  go_enter Tryz.func15,Tryz.ntmps15
  go_wp2_with (go_at_call 35;refine (kc _).mono ?_;rintro e W1 ⟨rfl,h1⟩;replace hb:=bTn hb h1;have q1:=HQ.out.kept h1;obtain⟨z0,z1,z2,z3,z4,z5,z6,z7⟩:=q1.c8;clear h1 q1)
  go_ret
  exact⟨rfl,hb⟩
theorem Ql6 (d h l v u x t n:Int)(w:World):Calls Tryz.prog 16 #[.agg (c8 d h l v u x t n)] w fun e w'=>e=.returned (I4 (Qc0 d h l v u x t n))∧Bw w w':=by
 have kc:=Qat d h l v u x t n
 have hnot:∀ (x:Bool) (w:World),(Op.unary .not (.bool x)).run Tryz.prog w=.ok (.bool (!x)) w:=fun _ _=>rfl
 have hb:=bNw (bS w) (.cells (c8 d h l v u x t n) 23)
 have q:=Blk.new 23 w (c8 d h l v u x t n)
 unfold Qc0
 cases ok:okB d h l v u x t n with
 | false =>
  simp only[ok] at kc
  go_enter Tryz.func16,Tryz.ntmps16
  go_wp2_with (go_at_call 36;refine (kc _).mono ?_;rintro e W1 ⟨rfl,h1⟩;replace hb:=bTn hb h1)
  go_ret
  exact⟨rfl,hb⟩
 | true =>
  simp only[ok] at kc
  have wb:=QdH ok
  obtain⟨p0,p1,p2,p3⟩:=wb
  obtain⟨p,ep⟩:∃ p,2*d*l=p:=⟨_,rfl⟩
  rw[ep] at p2 p3
  have HQ:=hdn q
  clear q
  go_enter Tryz.func16,Tryz.ntmps16
  go_wp2_with (go_at_call 36;refine (kc _).mono ?_;rintro e W1 ⟨rfl,h1⟩;replace hb:=bTn hb h1;have q1:=HQ.out.kept h1;obtain⟨z0,z1,z2,z3,z4,z5,z6,z7⟩:=q1.c8;clear h1 q1)
  go_ret
  exact⟨rfl,hb⟩
theorem Qfw (R S:Int)(La:SL)(hR:R=0)(w:World):Calls Tryz.prog 53 #[.agg #[I4 R,I4 S,La.w]] w fun e w'=>e=.returned (.bool false)∧Bw w w':=by
 have hb:=bNw (bS w) (.cells #[I4 R,I4 S,La.w] 30)
 subst hR
 go_enter Tryz.func53,Tryz.ntmps53
 go_wp2
 go_ret
 exact⟨rfl,hb⟩
theorem QcT (R S:Int)(La:SL)(hR:R≠0)(w:World):Calls Tryz.prog 53 #[.agg #[I4 R,I4 S,La.w]] w fun e w'=>e=.returned (.bool true)∧Bw w w':=by
 have hb:=bNw (bS w) (.cells #[I4 R,I4 S,La.w] 30)
 have z:(R==0)=false:=by simp[hR]
 have z':(R != 0)=true:=by simp[hR]
 go_enter Tryz.func53,Tryz.ntmps53
 go_wp2
 go_ret
 exact⟨rfl,hb⟩
theorem Qih (a:Option Addr)(n c:Nat)(A:Nat→Option Addr)(C:Nat→Nat)(P:Nat→List Int)(cnt wd:Int)(w:World)(h:Grid w a n A C P)(hn:(n:Int)=cnt)(B:Bool)(yes:(∀ r,r<n→((P r).length:Int)=wd)→B=true)(no:∀ r,r<n→¬((P r).length:Int)=wd→B=false) :
  Calls Tryz.prog 57 #[.slice a n c,I4 cnt,I4 wd] w fun e w'=>e=.returned (.bool B)∧w'=w:=by
 subst hn
 have hm:=h.max
 go_enter Tryz.func57,Tryz.ntmps57
 go_wp2
 go_loopw [15] (fun i wr=>∃ k:Nat,k≤n∧i=I4 k∧wr=w∧∀ r,r<k→((P r).length:Int)=wd) (fun i _=>n-(intOf i).toNat)
 case atStart=>exact⟨0,Nat.zero_le _,rfl,rfl,fun r h=>by omega⟩
 case round =>
  obtain⟨k,hk,rfl,hw,hs⟩:=hrel
  subst hw
  by_cases hlt:k<n
  ·obtain⟨x,rfl⟩:=h.some_ (by omega)
   have cx:=h.cell x rfl k hlt
   have Hs:Hid (∀ r,r<k→((P r).length:Int)=wd):=hs
   have nk:=no k hlt
   have hl:=(h.row k hlt).max
   clear hs h no
   obtain⟨g,eg⟩:∃ g,(P k).length=g:=⟨_,rfl⟩
   rw[eg] at cx nk hl
   have Eg:Hid ((P k).length=g):=eg
   clear eg
   by_cases e1:(g:Int)=wd
   ·subst e1
    clear nk
    go_wp2
    go_roundw
    case rel =>
     refine⟨k+1,by omega,by go_num,trivial,fun r hr=>?_⟩
     by_cases e:r=k
     ·subst e;rw[Eg.out]
     ·exact Hs.out r (by omega)
    case measure=>simp[intOf];omega
   ·have z1:((g:Int)==wd)=false:=by simp[e1]
    have z2:((g:Int) != wd)=true:=by simp[e1]
    have hB:=nk e1
    clear nk
    go_wp2
    go_ret
    exact⟨by rw[hB];rfl,rfl⟩
  ·have e:k=n:=by omega
   subst e
   have hB:=yes hs
   clear hs no yes
   go_wp2
   go_ret
   exact⟨by rw[hB];rfl,rfl⟩
end Go.Proofs.YthliomlmhfjhnaaGreat
