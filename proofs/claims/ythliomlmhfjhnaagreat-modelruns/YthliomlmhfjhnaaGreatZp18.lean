/- Texts put together. -/
import Derived.Test.YthliomlmhfjhnaaGreatZp11
import Derived.Test.YthliomlmhfjhnaaGreatZp14
namespace Go.Proofs.YthliomlmhfjhnaaGreat
set_option maxRecDepth 20000
set_option maxHeartbeats 16000000
open Go.ChangeShapes Go.WideShapes Go.ChangeAt Go.RowKit
set_option linter.unusedVariables false
set_option linter.unusedSimpArgs false
abbrev nilS:Value:=.slice none 0 0
theorem Qoc:(Tryz.prog.info? 65).map (fun i=>(i.zero,i.size,i.bytes))=some (some (.agg #[nilS,nilS,nilS,nilS,nilS,nilS,nilS,nilS,nilS]),9,216):=by kernel_rfl
theorem Qoe:(Tryz.prog.info? 24).map (fun i=>(i.zero,i.size,i.bytes))=some (some nilS,1,24):=by kernel_rfl
theorem QfT (d h l v u x t n:Int)(w:World):Calls Tryz.prog 112 #[.agg (c8 d h l v u x t n)] w fun e w'=>e=.returned (I4 (max x 1))∧∃ o,w'=w.alloc o:=by
 rcases Int.lt_trichotomy x 1 with h0|rfl|h0
 ·rw[show max x 1=1 by omega]
  go_enter Tryz.func112,Tryz.ntmps112
  go_wp2
  go_ret
  exact⟨rfl,_,rfl⟩
 ·go_enter Tryz.func112,Tryz.ntmps112
  go_wp2
  go_ret
  exact⟨rfl,_,rfl⟩
 ·rw[show max x 1=x by omega]
  go_enter Tryz.func112,Tryz.ntmps112
  go_wp2
  go_ret
  exact⟨rfl,_,rfl⟩
theorem Blk.new_at (t:TypeId)(w:World)(cs:Array Value)(g:Nat)(hg:g=w.heap.size):Blk t (w.alloc (.cells cs t)) g cs:=by
 subst hg
 exact Blk.new t w cs
theorem Blk.other {t:TypeId}{w:World}{b:Nat}{cs:Array Value}(h:Blk t w b cs){a:Addr}(v:Value)(ha:b≠a.block):Blk t (w.setCell a v) b cs:=(Below.heap_setCell _ _ _ _ ha).trans h
theorem Qe8 {t:TypeId}{W:World}{b:Nat}{x0 x1 x2 x3 x4 x5 x6 x7 x8 x9 x10 x11:Value}(h:Blk t W b #[x0,x1,x2,x3,x4,x5,x6,x7,x8,x9,x10,x11])(v0 v1 v2 v3 v4 v5 v6 v7 v8 v9 v10 v11:Value) :
  ∃ W',((((((((((((W.setCell ⟨b,0,none⟩ v0).setCell ⟨b,1,none⟩ v1).setCell ⟨b,2,none⟩ v2).setCell ⟨b,3,none⟩ v3).setCell ⟨b,4,none⟩ v4).setCell ⟨b,5,none⟩ v5).setCell ⟨b,6,none⟩ v6).setCell ⟨b,7,none⟩ v7).setCell ⟨b,8,none⟩ v8).setCell ⟨b,9,none⟩ v9).setCell ⟨b,10,none⟩ v10).setCell ⟨b,11,none⟩ v11)=W'∧Blk t W' b #[v0,v1,v2,v3,v4,v5,v6,v7,v8,v9,v10,v11]∧Only b W W'∧W'.heap.size=W.heap.size:=by
 have z0:W.heap.size=W.heap.size:=rfl
 have s1:Blk t (W.setCell ⟨b,0,none⟩ v0) b #[v0,x1,x2,x3,x4,x5,x6,x7,x8,x9,x10,x11]:=h.set 0 v0
 have n1:=(Only.set b 0 W v0)
 have z1:(W.setCell ⟨b,0,none⟩ v0).heap.size=W.heap.size:=(by simp[World.setCell]:_=W.heap.size).trans z0
 obtain⟨W1,e1⟩:∃ W1,W.setCell ⟨b,0,none⟩ v0=W1:=⟨_,rfl⟩
 rw[e1] at s1 n1 z1 ⊢
 have s2:Blk t (W1.setCell ⟨b,1,none⟩ v1) b #[v0,v1,x2,x3,x4,x5,x6,x7,x8,x9,x10,x11]:=s1.set 1 v1
 have n2:=n1.trans (Only.set b 1 W1 v1)
 have z2:(W1.setCell ⟨b,1,none⟩ v1).heap.size=W.heap.size:=(by simp[World.setCell]:_=W1.heap.size).trans z1
 obtain⟨W2,e2⟩:∃ W2,W1.setCell ⟨b,1,none⟩ v1=W2:=⟨_,rfl⟩
 rw[e2] at s2 n2 z2 ⊢
 have s3:Blk t (W2.setCell ⟨b,2,none⟩ v2) b #[v0,v1,v2,x3,x4,x5,x6,x7,x8,x9,x10,x11]:=s2.set 2 v2
 have n3:=n2.trans (Only.set b 2 W2 v2)
 have z3:(W2.setCell ⟨b,2,none⟩ v2).heap.size=W.heap.size:=(by simp[World.setCell]:_=W2.heap.size).trans z2
 obtain⟨W3,e3⟩:∃ W3,W2.setCell ⟨b,2,none⟩ v2=W3:=⟨_,rfl⟩
 rw[e3] at s3 n3 z3 ⊢
 have s4:Blk t (W3.setCell ⟨b,3,none⟩ v3) b #[v0,v1,v2,v3,x4,x5,x6,x7,x8,x9,x10,x11]:=s3.set 3 v3
 have n4:=n3.trans (Only.set b 3 W3 v3)
 have z4:(W3.setCell ⟨b,3,none⟩ v3).heap.size=W.heap.size:=(by simp[World.setCell]:_=W3.heap.size).trans z3
 obtain⟨W4,e4⟩:∃ W4,W3.setCell ⟨b,3,none⟩ v3=W4:=⟨_,rfl⟩
 rw[e4] at s4 n4 z4 ⊢
 have s5:Blk t (W4.setCell ⟨b,4,none⟩ v4) b #[v0,v1,v2,v3,v4,x5,x6,x7,x8,x9,x10,x11]:=s4.set 4 v4
 have n5:=n4.trans (Only.set b 4 W4 v4)
 have z5:(W4.setCell ⟨b,4,none⟩ v4).heap.size=W.heap.size:=(by simp[World.setCell]:_=W4.heap.size).trans z4
 obtain⟨W5,e5⟩:∃ W5,W4.setCell ⟨b,4,none⟩ v4=W5:=⟨_,rfl⟩
 rw[e5] at s5 n5 z5 ⊢
 have s6:Blk t (W5.setCell ⟨b,5,none⟩ v5) b #[v0,v1,v2,v3,v4,v5,x6,x7,x8,x9,x10,x11]:=s5.set 5 v5
 have n6:=n5.trans (Only.set b 5 W5 v5)
 have z6:(W5.setCell ⟨b,5,none⟩ v5).heap.size=W.heap.size:=(by simp[World.setCell]:_=W5.heap.size).trans z5
 obtain⟨W6,e6⟩:∃ W6,W5.setCell ⟨b,5,none⟩ v5=W6:=⟨_,rfl⟩
 rw[e6] at s6 n6 z6 ⊢
 have s7:Blk t (W6.setCell ⟨b,6,none⟩ v6) b #[v0,v1,v2,v3,v4,v5,v6,x7,x8,x9,x10,x11]:=s6.set 6 v6
 have n7:=n6.trans (Only.set b 6 W6 v6)
 have z7:(W6.setCell ⟨b,6,none⟩ v6).heap.size=W.heap.size:=(by simp[World.setCell]:_=W6.heap.size).trans z6
 obtain⟨W7,e7⟩:∃ W7,W6.setCell ⟨b,6,none⟩ v6=W7:=⟨_,rfl⟩
 rw[e7] at s7 n7 z7 ⊢
 have s8:Blk t (W7.setCell ⟨b,7,none⟩ v7) b #[v0,v1,v2,v3,v4,v5,v6,v7,x8,x9,x10,x11]:=s7.set 7 v7
 have n8:=n7.trans (Only.set b 7 W7 v7)
 have z8:(W7.setCell ⟨b,7,none⟩ v7).heap.size=W.heap.size:=(by simp[World.setCell]:_=W7.heap.size).trans z7
 obtain⟨W8,e8⟩:∃ W8,W7.setCell ⟨b,7,none⟩ v7=W8:=⟨_,rfl⟩
 rw[e8] at s8 n8 z8 ⊢
 have s9:Blk t (W8.setCell ⟨b,8,none⟩ v8) b #[v0,v1,v2,v3,v4,v5,v6,v7,v8,x9,x10,x11]:=s8.set 8 v8
 have n9:=n8.trans (Only.set b 8 W8 v8)
 have z9:(W8.setCell ⟨b,8,none⟩ v8).heap.size=W.heap.size:=(by simp[World.setCell]:_=W8.heap.size).trans z8
 obtain⟨W9,e9⟩:∃ W9,W8.setCell ⟨b,8,none⟩ v8=W9:=⟨_,rfl⟩
 rw[e9] at s9 n9 z9 ⊢
 have s10:Blk t (W9.setCell ⟨b,9,none⟩ v9) b #[v0,v1,v2,v3,v4,v5,v6,v7,v8,v9,x10,x11]:=s9.set 9 v9
 have n10:=n9.trans (Only.set b 9 W9 v9)
 have z10:(W9.setCell ⟨b,9,none⟩ v9).heap.size=W.heap.size:=(by simp[World.setCell]:_=W9.heap.size).trans z9
 obtain⟨W10,e10⟩:∃ W10,W9.setCell ⟨b,9,none⟩ v9=W10:=⟨_,rfl⟩
 rw[e10] at s10 n10 z10 ⊢
 have s11:Blk t (W10.setCell ⟨b,10,none⟩ v10) b #[v0,v1,v2,v3,v4,v5,v6,v7,v8,v9,v10,x11]:=s10.set 10 v10
 have n11:=n10.trans (Only.set b 10 W10 v10)
 have z11:(W10.setCell ⟨b,10,none⟩ v10).heap.size=W.heap.size:=(by simp[World.setCell]:_=W10.heap.size).trans z10
 obtain⟨W11,e11⟩:∃ W11,W10.setCell ⟨b,10,none⟩ v10=W11:=⟨_,rfl⟩
 rw[e11] at s11 n11 z11 ⊢
 have s12:Blk t (W11.setCell ⟨b,11,none⟩ v11) b #[v0,v1,v2,v3,v4,v5,v6,v7,v8,v9,v10,v11]:=s11.set 11 v11
 have n12:=n11.trans (Only.set b 11 W11 v11)
 have z12:(W11.setCell ⟨b,11,none⟩ v11).heap.size=W.heap.size:=(by simp[World.setCell]:_=W11.heap.size).trans z11
 obtain⟨W12,e12⟩:∃ W12,W11.setCell ⟨b,11,none⟩ v11=W12:=⟨_,rfl⟩
 rw[e12] at s12 n12 z12 ⊢
 exact⟨_,rfl,s12,n12,z12⟩
def perZ (d dd xd ud:Int)(ne:Nat):Int:=d+dd+dd+dd+dd+d+xd+(ne:Int)*(ud+ud)
theorem Qcq {z:Int}(h:0≤z∧z≤1000):IntKind.i64.wrap z=z:=by
 rw[IntKind.wrap_i64]
 omega
theorem Qmq {i m:Nat}{z:Int}(h:i≤m)(hz:0≤z):0≤(i:Int)*z∧(i:Int)*z≤(m:Int)*z :=
 ⟨Int.mul_nonneg (by omega) hz,Int.mul_le_mul_of_nonneg_right (by omega) hz⟩
def netsN (x:Int):Nat:=(max x 1).toNat
def szZ (d l v u x:Int):Int:=v*d+l*perZ d (d*d) (x*d) (u*d) (netsN x)+d+v*d
def Qe7 (d h l v u x t n:Int):Int:=if okB d h l v u x t n then szZ d l v u x else 0
theorem Qah {a b A B:Int}(ha:0≤a)(ha':a≤A)(hb:0≤b)(hb':b≤B):0≤a*b∧a*b≤A*B :=
 ⟨Int.mul_nonneg ha hb,Int.mul_le_mul ha' hb' hb (by omega)⟩
structure QmH (d h l v u x t n:Int):Prop where
 d0:2≤d
 d1:d≤8
 l0:1≤l
 l1:l≤2
 v0:2≤v
 v1:v≤16
 u0:1≤u
 u1:u≤8
 x0:0≤x
 x1:x≤4
 h0:1≤h
 h1:h≤4
 t0:0≤t
 t1:t≤4
 n0:0≤n
 n1:n≤16
theorem Qbk {d h l v u x t n:Int}(ok:okB d h l v u x t n=true):QmH d h l v u x t n:=by
 unfold okB QbY Qak at ok
 simp only[Bool.and_eq_true,decide_eq_true_eq] at ok
 obtain⟨⟨a1,a2,a3,a4,a5⟩,a6,⟨a7,a8⟩,⟨a9,a10⟩,⟨a11,a12⟩,a13,a14⟩:=ok
 have:=Qg9 a1 a2 a3 a4 a5
 exact⟨by omega,by omega,by omega,by omega,by omega,by omega,by omega,by omega,by omega,by omega,by omega,by omega,by omega,by omega,by omega,by omega⟩
theorem QmH.nets {d h l v u x t n:Int}(r:QmH d h l v u x t n):max x 1=(netsN x:Int)∧1≤netsN x∧netsN x≤4:=by
 have:=r.x0;have:=r.x1
 unfold netsN
 omega
theorem Qld (d h l v u x t n P X B:Int)(w:World)(e1:4*d*d=P)(e2:x*d=X)(e3:2*u*d=B)(x1:x<1)(b0:0≤d)(b0':d≤8)(b1:0≤P)(b1':P≤256)(b2:0≤X)(b2':X≤100)(b3:0≤B)(b3':B≤1000)(u0:0≤u)(u1:u≤8) :
  Calls Tryz.prog 82 #[.agg (c8 d h l v u x t n)] w fun e w'=>e=.returned (I4 (2*d+P+X+B))∧Bw w w':=by
 go_enter Tryz.func82,Tryz.ntmps82
 go_wp2
 go_ret
 exact⟨rfl,bNw (bT w) _⟩
theorem QjB (d h l v u x t n P X A B:Int)(w:World)(e1:4*d*d=P)(e2:x*d=X)(e4:x*2*u=A)(e3:A*d=B)(x1:1<x)(x2:x≤4)(b0:0≤d)(b0':d≤8)(b1:0≤P)(b1':P≤256)(b2:0≤X)(b2':X≤100)(b3:0≤B)(b3':B≤1000)(b4:0≤A)(b4':A≤1000)(u0:0≤u)(u1:u≤8) :
  Calls Tryz.prog 82 #[.agg (c8 d h l v u x t n)] w fun e w'=>e=.returned (I4 (2*d+P+X+B))∧Bw w w':=by
 go_enter Tryz.func82,Tryz.ntmps82
 go_wp2
 go_ret
 exact⟨rfl,bNw (bT w) _⟩
theorem QjC (d h l v u x t n:Int)(ok:okB d h l v u x t n=true)(w:World):Calls Tryz.prog 82 #[.agg (c8 d h l v u x t n)] w fun e w'=>e=.returned (I4 (perZ d (d*d) (x*d) (u*d) (netsN x)))∧Bw w w':=by
 have r:=Qbk ok
 obtain⟨hx,-,n4⟩:=r.nets
 have d0:=r.d0;have d1:=r.d1;have u0:=r.u0;have u1:=r.u1;have x0:=r.x0;have x1:=r.x1
 have p2:=Qah (show 0≤d by omega) d1 (show 0≤d by omega) d1
 have p3:=Qah r.x0 r.x1 (show 0≤d by omega) d1
 have p4:=Qah (show 0≤u by omega) u1 (show 0≤d by omega) d1
 have eP:4*d*d=4*(d*d):=Int.mul_assoc _ _ _
 rcases Int.lt_trichotomy x 1 with h1|h1|h1
 ·have eN:netsN x=1:=by unfold netsN;omega
  have eB:2*u*d=2*(u*d):=Int.mul_assoc _ _ _
  have e:perZ d (d*d) (x*d) (u*d) (netsN x)=2*d+4*d*d+x*d+2*u*d:=by rw[eN,eP,eB];unfold perZ;omega
  rw[e]
  exact Qld d h l v u x t n _ _ _ w rfl rfl rfl h1 (by omega) d1 (by omega) (by omega) (by omega) (by omega) (by omega) (by omega) (by omega) u1
 ·exfalso
  unfold okB Qak at ok
  simp only[Bool.and_eq_true,decide_eq_true_eq] at ok
  omega
 ·have eN:(netsN x:Int)=x:=by rw[←hx];omega
  have q1:=Qah (show 0≤x*2 by omega) (show x*2≤8 by omega) (show 0≤u by omega) u1
  have q2:=Qah q1.1 (show x*2*u≤64 by omega) (show 0≤d by omega) d1
  have e:perZ d (d*d) (x*d) (u*d) (netsN x)=2*d+4*d*d+x*d+x*2*u*d:=by
   unfold perZ
   rw[eN,eP,show x*(u*d+u*d)=x*2*u*d by rw[Int.mul_assoc (x*2),Int.mul_assoc x];congr 1;omega]
   omega
  rw[e]
  exact QjB d h l v u x t n _ _ _ _ w rfl rfl rfl rfl h1 x1 (by omega) d1 (by omega) (by omega) (by omega) (by omega) q2.1 (by omega) q1.1 (by omega) (by omega) u1
theorem QhT (d h l v u x t n V L M:Int)(e1:2*v*d=V)(e2:l*L=M)(b0:0≤d)(b0':d≤8)(v0:0≤v)(v1:v≤16)(l0:0≤l)(l1:l≤2)(V0:0≤V)(V1:V≤1000)(M0:0≤M)(M1:M≤100000)
  (w1:IntKind.i64.wrap (2*v)=2*v) (w2:IntKind.i64.wrap V=V) (w3:IntKind.i64.wrap (V+d)=V+d) (w4:IntKind.i64.wrap M=M) (w5:IntKind.i64.wrap (V+d+M)=V+d+M)
  (k10:∀ w,Calls Tryz.prog 36 #[.agg (c8 d h l v u x t n)] w fun e w'=>e=.returned (.bool true)∧Bw w w') (k34:∀ w,Calls Tryz.prog 82 #[.agg (c8 d h l v u x t n)] w fun e w'=>e=.returned (I4 L)∧Bw w w') (w:World) :
  Calls Tryz.prog 41 #[.agg (c8 d h l v u x t n)] w fun e w'=>e=.returned (I4 (V+d+M))∧Bw w w':=by
 have hb:=bNw (bS w) (.cells (c8 d h l v u x t n) 23)
 have key:=Blk.new 23 w (c8 d h l v u x t n)
 have HK:=hdn key
 clear key
 go_enter Tryz.func41,Tryz.ntmps41
 go_wp2_with (first
  | (go_at_call 36;refine (k10 _).mono ?_;rintro e W1 ⟨rfl,h1⟩;have q1:=HK.out.kept h1;obtain⟨c0,c1,c2,c3,c4,c5,c6,c7⟩:=q1.cfg;replace hb:=bTn hb h1;clear h1 HK))
 go_region_held3 (fun W=>W.cell? ⟨w.heap.size,0,none⟩=some (I4 d)∧W.cell? ⟨w.heap.size,1,none⟩=some (I4 h)∧W.cell? ⟨w.heap.size,2,none⟩=some (I4 l)∧W.cell? ⟨w.heap.size,3,none⟩=some (I4 v)∧W.cell? ⟨w.heap.size,4,none⟩=some (I4 u)∧W.cell? ⟨w.heap.size,5,none⟩=some (I4 x)∧W.cell? ⟨w.heap.size,6,none⟩=some (I4 t)∧W.cell? ⟨w.heap.size,7,none⟩=some (I4 n)) (exact⟨c0,c1,c2,c3,c4,c5,c6,c7⟩) (first
  | (go_at_call 82;refine (k34 _).mono ?_;rintro e W2 ⟨rfl,h2⟩;have q2:=q1.kept (w':=W2) ⟨h2.os,h2.tape,h2.output,h2.size,h2.block⟩;clear c0 c1 c2 c3 c4 c5 c6 c7;obtain⟨c0,c1,c2,c3,c4,c5,c6,c7⟩:=q2.cfg;replace hb:=bTn hb ⟨h2.os,h2.tape,h2.output,h2.size,h2.block⟩;clear h2))
 go_wp2
 go_ret
 exact⟨rfl,hb⟩
theorem Qjh (d h l v u x t n:Int)(k10:∀ w,Calls Tryz.prog 36 #[.agg (c8 d h l v u x t n)] w fun e w'=>e=.returned (.bool false)∧Bw w w')(w:World) :
  Calls Tryz.prog 41 #[.agg (c8 d h l v u x t n)] w fun e w'=>e=.returned (I4 0)∧Bw w w':=by
 have hb:=bNw (bS w) (.cells (c8 d h l v u x t n) 23)
 go_enter Tryz.func41,Tryz.ntmps41
 go_wp2_with (first|(go_at_call 36;refine (k10 _).mono ?_;rintro e W1 ⟨rfl,h1⟩;replace hb:=bTn hb h1;clear h1))
 go_ret
 exact⟨rfl,hb⟩
theorem Qau {z:Int}(h0:0≤z)(h1:z≤1000000):IntKind.i64.wrap z=z:=by rw[IntKind.wrap_i64];omega
theorem Qfq {d h l v u x t n:Int}(r:QmH d h l v u x t n):0≤perZ d (d*d) (x*d) (u*d) (netsN x)∧perZ d (d*d) (x*d) (u*d) (netsN x)≤2000:=by
 obtain⟨hx,-,n4⟩:=r.nets
 have d0:=r.d0;have d1:=r.d1;have u0:=r.u0;have u1:=r.u1;have x0:=r.x0;have x1:=r.x1
 have p2:=Qah (show 0≤d by omega) d1 (show 0≤d by omega) d1
 have p3:=Qah r.x0 r.x1 (show 0≤d by omega) d1
 have p4:=Qah (show 0≤u by omega) u1 (show 0≤d by omega) d1
 have p5:=Qmq n4 (show 0≤u*d+u*d by omega)
 unfold perZ
 omega
theorem QbH (d h l v u x t n:Int)(w:World):Calls Tryz.prog 41 #[.agg (c8 d h l v u x t n)] w fun e w'=>e=.returned (I4 (Qe7 d h l v u x t n))∧Bw w w':=by
 have k10:=Qat d h l v u x t n
 unfold Qe7
 cases ok:okB d h l v u x t n with
 | false=>simp only[ok] at k10;exact Qjh d h l v u x t n k10 w
 | true =>
  simp only[ok] at k10
  have r:=Qbk ok
  have pb:=Qfq r
  have d0:=r.d0;have d1:=r.d1;have l0:=r.l0;have l1:=r.l1;have v0:=r.v0;have v1:=r.v1
  have p1:=Qah (show 0≤v by omega) v1 (show 0≤d by omega) d1
  have pl:=Qah (show 0≤l by omega) l1 pb.1 pb.2
  have eV:2*v*d=2*(v*d):=Int.mul_assoc _ _ _
  rw[if_pos rfl]
  have e:szZ d l v u x=2*v*d+d+l*perZ d (d*d) (x*d) (u*d) (netsN x):=by rw[eV];unfold szZ;omega
  rw[e]
  exact QhT d h l v u x t n _ _ _ rfl rfl (by omega) d1 (by omega) v1 (by omega) l1 (by omega) (by omega) (by omega) (by omega) (Qau (by omega) (by omega)) (Qau (by omega) (by omega)) (Qau (by omega) (by omega)) (Qau (by omega) (by omega)) (Qau (by omega) (by omega)) k10 (QjC d h l v u x t n ok) w
theorem Qnv {k:IntKind}{e:TypeId}{W W1:World}{m:Nat}{zs:List Int}{v:Value}(ho:W1.ownsRow W.heap.size e 1 v (0+m) ([]++zs.map (Value.int k)))(hg:(W.alloc (.cells #[] e)).grownBy W1 (Value.slice (some ⟨W.heap.size,0,none⟩) 0 0).ownBlock)
  {a:Option Addr}{wz:World} (hr:Reads k wz a m zs):∃ b c,v=.slice b m c∧Reads k W1 b m zs∧Bw W W1∧(b=none→c=0)∧m≤c∧∀ y,b=some y→W.heap.size≤y.block:=by
 obtain⟨a1,c1,e1,r1,hb,n1,l1⟩:=Qhd (W:=W) (w:=W) (Below.refl _ W) (.cells #[] e) ho hg hr
 refine⟨a1,c1,e1,r1,hb,n1,l1,fun y hy=>?_⟩
 simp only[Nat.zero_add,List.nil_append] at ho
 rw[e1,hy] at ho
 exact (ho.lt y.block (by simp[Value.ownBlock])).1
structure QmI (w:World) (a:Option Addr) (n:Nat) (A:Nat→Option Addr) (C:Nat→Nat) (R:Nat→List Int):Prop where
 max:n≤9223372036854775807
 some_:0<n→∃ x,a=some x
 cell:∀ x,a=some x→∀ r,r<n→w.cell? (x.add r)=some (.slice (A r) (R r).length (C r))
 row:∀ r,r<n→Reads .i8 w (A r) (R r).length (R r)
theorem QmI.below {w w':World}{a:Option Addr}{n:Nat}{A:Nat→Option Addr}{C:Nat→Nat}{R:Nat→List Int}(h:QmI w a n A C R)(hb:Bw w w'):QmI w' a n A C R :=
 ⟨h.max,h.some_,fun x hx r hr=>(hb.cell (World.block_lt_of_cell? w _ (h.cell x hx r hr))).trans (h.cell x hx r hr),fun r hr=>(h.row r hr).below hb⟩
structure Nets (w:World) (a:Option Addr) (n:Nat) (A:Nat→Option Addr) (C:Nat→Nat) (R:Nat→List Int):Prop where
 grid:QmI w a n A C R
 cap:∀ r,r<n→(R r).length≤C r
 nil_:∀ r,r<n→A r=none→C r=0
 bnd:∀ r,r<n→(R r).length*8≤140737488355328
theorem Nets.below {w w':World}{a:Option Addr}{n:Nat}{A:Nat→Option Addr}{C:Nat→Nat}{R:Nat→List Int}(h:Nets w a n A C R)(hb:Bw w w'):Nets w' a n A C R :=
 ⟨h.grid.below hb,h.cap,h.nil_,h.bnd⟩
end Go.Proofs.YthliomlmhfjhnaaGreat
