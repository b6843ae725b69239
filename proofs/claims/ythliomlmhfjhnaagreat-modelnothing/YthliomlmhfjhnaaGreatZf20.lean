/- Texts put together. -/
import Derived.Test.YthliomlmhfjhnaaGreatRows
import Derived.Test.YthliomlmhfjhnaaGreatZf11
import Derived.Test.YthliomlmhfjhnaaGreatZf13
namespace Go.Proofs.YthliomlmhfjhnaaGreat
set_option maxRecDepth 20000
set_option maxHeartbeats 16000000
open Go.ChangeShapes Go.WideShapes Go.ChangeAt Go.RowKit
set_option linter.unusedVariables false
set_option linter.unusedSimpArgs false
section
def netsN (x:Int):Nat:=(max x 1).toNat
def szZ (d l v u x:Int):Int:=v*d+l*perZ d (d*d) (x*d) (u*d) (netsN x)+d+v*d
def sizeB (d h l v u x t n:Int):Int:=if okB d h l v u x t n then szZ d l v u x else 0
theorem mul_bounds {a b A B:Int}(ha:0≤a)(ha':a≤A)(hb:0≤b)(hb':b≤B):0≤a*b∧a*b≤A*B :=
 ⟨Int.mul_nonneg ha hb,Int.mul_le_mul ha' hb' hb (by omega)⟩
structure Right (d h l v u x t n:Int):Prop where
 d0:2≤d
 d1:d≤8
 l0:1≤l
 l1:l≤2
 v0:2≤v
 v1:v≤16
 u0:1≤u
 u1:u≤8
 x0:0≤x
 x1:x≤4
 h0:1≤h
 h1:h≤4
 t0:0≤t
 t1:t≤4
 n0:0≤n
 n1:n≤16
theorem right_of {d h l v u x t n:Int}(ok:okB d h l v u x t n=true):Right d h l v u x t n:=by
 unfold okB headsB expertsB at ok
 simp only[Bool.and_eq_true,decide_eq_true_eq] at ok
 obtain⟨⟨a1,a2,a3,a4,a5⟩,a6,⟨a7,a8⟩,⟨a9,a10⟩,⟨a11,a12⟩,a13,a14⟩:=ok
 have:=heads_few a1 a2 a3 a4 a5
 exact⟨by omega,by omega,by omega,by omega,by omega,by omega,by omega,by omega,by omega,by omega,by omega,by omega,by omega,by omega,by omega,by omega⟩
theorem Right.nets {d h l v u x t n:Int}(r:Right d h l v u x t n):max x 1=(netsN x:Int)∧1≤netsN x∧netsN x≤4:=by
 have:=r.x0;have:=r.x1
 unfold netsN
 omega
theorem layer_few (d h l v u x t n P X B:Int)(w:World)(e1:4*d*d=P)(e2:x*d=X)(e3:2*u*d=B)(x1:x<1)(b0:0≤d)(b0':d≤8)(b1:0≤P)(b1':P≤256)(b2:0≤X)(b2':X≤100)(b3:0≤B)(b3':B≤1000)(u0:0≤u)(u1:u≤8) :
  Calls Tryz.prog 82 #[.agg #[.int .i64 d,.int .i64 h,.int .i64 l,.int .i64 v,.int .i64 u,.int .i64 x,.int .i64 t,.int .i64 n]] w fun e w'=>e=.returned (.int .i64 (2*d+P+X+B))∧Below w.heap.size w w':=by
 go_enter Tryz.func82,Tryz.ntmps82
 go_wp2
 go_ret
 exact⟨rfl,bNw (Below.refl _ w) _⟩
theorem layer_many (d h l v u x t n P X A B:Int)(w:World)(e1:4*d*d=P)(e2:x*d=X)(e4:x*2*u=A)(e3:A*d=B)(x1:1<x)(x2:x≤4)(b0:0≤d)(b0':d≤8)(b1:0≤P)(b1':P≤256)(b2:0≤X)(b2':X≤100)(b3:0≤B)(b3':B≤1000)(b4:0≤A)(b4':A≤1000)(u0:0≤u)(u1:u≤8) :
  Calls Tryz.prog 82 #[.agg #[.int .i64 d,.int .i64 h,.int .i64 l,.int .i64 v,.int .i64 u,.int .i64 x,.int .i64 t,.int .i64 n]] w fun e w'=>e=.returned (.int .i64 (2*d+P+X+B))∧Below w.heap.size w w':=by
 go_enter Tryz.func82,Tryz.ntmps82
 go_wp2
 go_ret
 exact⟨rfl,bNw (Below.refl _ w) _⟩
theorem layer_call (d h l v u x t n:Int)(ok:okB d h l v u x t n=true)(w:World):Calls Tryz.prog 82 #[.agg #[.int .i64 d,.int .i64 h,.int .i64 l,.int .i64 v,.int .i64 u,.int .i64 x,.int .i64 t,.int .i64 n]] w fun e w'=>e=.returned (.int .i64 (perZ d (d*d) (x*d) (u*d) (netsN x)))∧Below w.heap.size w w':=by
 have r:=right_of ok
 obtain⟨hx,-,n4⟩:=r.nets
 have d0:=r.d0;have d1:=r.d1;have u0:=r.u0;have u1:=r.u1;have x0:=r.x0;have x1:=r.x1
 have p2:=mul_bounds (show 0≤d by omega) d1 (show 0≤d by omega) d1
 have p3:=mul_bounds r.x0 r.x1 (show 0≤d by omega) d1
 have p4:=mul_bounds (show 0≤u by omega) u1 (show 0≤d by omega) d1
 have eP:4*d*d=4*(d*d):=Int.mul_assoc _ _ _
 rcases Int.lt_trichotomy x 1 with h1|h1|h1
 ·have eN:netsN x=1:=by unfold netsN;omega
  have eB:2*u*d=2*(u*d):=Int.mul_assoc _ _ _
  have e:perZ d (d*d) (x*d) (u*d) (netsN x)=2*d+4*d*d+x*d+2*u*d:=by rw[eN,eP,eB];unfold perZ;omega
  rw[e]
  exact layer_few d h l v u x t n _ _ _ w rfl rfl rfl h1 (by omega) d1 (by omega) (by omega) (by omega) (by omega) (by omega) (by omega) (by omega) u1
 ·exfalso
  unfold okB expertsB at ok
  simp only[Bool.and_eq_true,decide_eq_true_eq] at ok
  omega
 ·have eN:(netsN x:Int)=x:=by rw[←hx];omega
  have q1:=mul_bounds (show 0≤x*2 by omega) (show x*2≤8 by omega) (show 0≤u by omega) u1
  have q2:=mul_bounds q1.1 (show x*2*u≤64 by omega) (show 0≤d by omega) d1
  have e:perZ d (d*d) (x*d) (u*d) (netsN x)=2*d+4*d*d+x*d+x*2*u*d:=by
   unfold perZ
   rw[eN,eP,show x*(u*d+u*d)=x*2*u*d by rw[Int.mul_assoc (x*2),Int.mul_assoc x];congr 1;omega]
   omega
  rw[e]
  exact layer_many d h l v u x t n _ _ _ _ w rfl rfl rfl rfl h1 x1 (by omega) d1 (by omega) (by omega) (by omega) (by omega) q2.1 (by omega) q1.1 (by omega) (by omega) u1
theorem refSize_yes (d h l v u x t n V L M:Int)(e1:2*v*d=V)(e2:l*L=M)(b0:0≤d)(b0':d≤8)(v0:0≤v)(v1:v≤16)(l0:0≤l)(l1:l≤2)(V0:0≤V)(V1:V≤1000)(M0:0≤M)(M1:M≤100000)
  (w1:IntKind.i64.wrap (2*v)=2*v) (w2:IntKind.i64.wrap V=V) (w3:IntKind.i64.wrap (V+d)=V+d) (w4:IntKind.i64.wrap M=M) (w5:IntKind.i64.wrap (V+d+M)=V+d+M)
  (k10:∀ w,Calls Tryz.prog 36 #[.agg #[.int .i64 d,.int .i64 h,.int .i64 l,.int .i64 v,.int .i64 u,.int .i64 x,.int .i64 t,.int .i64 n]] w fun e w'=>e=.returned (.bool true)∧Below w.heap.size w w') (k34:∀ w,Calls Tryz.prog 82 #[.agg #[.int .i64 d,.int .i64 h,.int .i64 l,.int .i64 v,.int .i64 u,.int .i64 x,.int .i64 t,.int .i64 n]] w fun e w'=>e=.returned (.int .i64 L)∧Below w.heap.size w w') (w:World) :
  Calls Tryz.prog 41 #[.agg #[.int .i64 d,.int .i64 h,.int .i64 l,.int .i64 v,.int .i64 u,.int .i64 x,.int .i64 t,.int .i64 n]] w fun e w'=>e=.returned (.int .i64 (V+d+M))∧Below w.heap.size w w':=by
 have hb:=bNw (Below.refl w.heap.size w) (.cells #[.int .i64 d,.int .i64 h,.int .i64 l,.int .i64 v,.int .i64 u,.int .i64 x,.int .i64 t,.int .i64 n] 23)
 have key:=Blk.new 23 w #[.int .i64 d,.int .i64 h,.int .i64 l,.int .i64 v,.int .i64 u,.int .i64 x,.int .i64 t,.int .i64 n]
 have HK:=hdn key
 clear key
 go_enter Tryz.func41,Tryz.ntmps41
 go_wp2_with (first
  | (go_at_call 36;refine (k10 _).mono ?_;rintro e W1 ⟨rfl,h1⟩;have q1:=HK.out.kept h1;obtain⟨c0,c1,c2,c3,c4,c5,c6,c7⟩:=q1.cfg;replace hb:=bTn hb h1;clear h1 HK))
 go_region_held3 (fun W=>W.cell? ⟨w.heap.size,0,none⟩=some (.int .i64 d)∧W.cell? ⟨w.heap.size,1,none⟩=some (.int .i64 h)∧W.cell? ⟨w.heap.size,2,none⟩=some (.int .i64 l)∧W.cell? ⟨w.heap.size,3,none⟩=some (.int .i64 v)∧W.cell? ⟨w.heap.size,4,none⟩=some (.int .i64 u)∧W.cell? ⟨w.heap.size,5,none⟩=some (.int .i64 x)∧W.cell? ⟨w.heap.size,6,none⟩=some (.int .i64 t)∧W.cell? ⟨w.heap.size,7,none⟩=some (.int .i64 n)) (exact⟨c0,c1,c2,c3,c4,c5,c6,c7⟩) (first
  | (go_at_call 82;refine (k34 _).mono ?_;rintro e W2 ⟨rfl,h2⟩;have q2:=q1.kept (w':=W2) ⟨h2.os,h2.tape,h2.output,h2.size,h2.block⟩;clear c0 c1 c2 c3 c4 c5 c6 c7;obtain⟨c0,c1,c2,c3,c4,c5,c6,c7⟩:=q2.cfg;replace hb:=bTn hb ⟨h2.os,h2.tape,h2.output,h2.size,h2.block⟩;clear h2))
 go_wp2
 go_ret
 exact⟨rfl,hb⟩
theorem refSize_no (d h l v u x t n:Int)(k10:∀ w,Calls Tryz.prog 36 #[.agg #[.int .i64 d,.int .i64 h,.int .i64 l,.int .i64 v,.int .i64 u,.int .i64 x,.int .i64 t,.int .i64 n]] w fun e w'=>e=.returned (.bool false)∧Below w.heap.size w w')(w:World) :
  Calls Tryz.prog 41 #[.agg #[.int .i64 d,.int .i64 h,.int .i64 l,.int .i64 v,.int .i64 u,.int .i64 x,.int .i64 t,.int .i64 n]] w fun e w'=>e=.returned (.int .i64 0)∧Below w.heap.size w w':=by
 have hb:=bNw (Below.refl w.heap.size w) (.cells #[.int .i64 d,.int .i64 h,.int .i64 l,.int .i64 v,.int .i64 u,.int .i64 x,.int .i64 t,.int .i64 n] 23)
 go_enter Tryz.func41,Tryz.ntmps41
 go_wp2_with (first|(go_at_call 36;refine (k10 _).mono ?_;rintro e W1 ⟨rfl,h1⟩;replace hb:=bTn hb h1;clear h1))
 go_ret
 exact⟨rfl,hb⟩
theorem wrap_fits {z:Int}(h0:0≤z)(h1:z≤1000000):IntKind.i64.wrap z=z:=by rw[IntKind.wrap_i64];omega
theorem per_bounds {d h l v u x t n:Int}(r:Right d h l v u x t n):0≤perZ d (d*d) (x*d) (u*d) (netsN x)∧perZ d (d*d) (x*d) (u*d) (netsN x)≤2000:=by
 obtain⟨hx,-,n4⟩:=r.nets
 have d0:=r.d0;have d1:=r.d1;have u0:=r.u0;have u1:=r.u1;have x0:=r.x0;have x1:=r.x1
 have p2:=mul_bounds (show 0≤d by omega) d1 (show 0≤d by omega) d1
 have p3:=mul_bounds r.x0 r.x1 (show 0≤d by omega) d1
 have p4:=mul_bounds (show 0≤u by omega) u1 (show 0≤d by omega) d1
 have p5:=int_upto n4 (show 0≤u*d+u*d by omega)
 unfold perZ
 omega
theorem refSize_call (d h l v u x t n:Int)(w:World):Calls Tryz.prog 41 #[.agg #[.int .i64 d,.int .i64 h,.int .i64 l,.int .i64 v,.int .i64 u,.int .i64 x,.int .i64 t,.int .i64 n]] w fun e w'=>e=.returned (.int .i64 (sizeB d h l v u x t n))∧Below w.heap.size w w':=by
 have k10:=refConfig_call d h l v u x t n
 unfold sizeB
 cases ok:okB d h l v u x t n with
 | false=>simp only[ok] at k10;exact refSize_no d h l v u x t n k10 w
 | true =>
  simp only[ok] at k10
  have r:=right_of ok
  have pb:=per_bounds r
  have d0:=r.d0;have d1:=r.d1;have l0:=r.l0;have l1:=r.l1;have v0:=r.v0;have v1:=r.v1
  have p1:=mul_bounds (show 0≤v by omega) v1 (show 0≤d by omega) d1
  have pl:=mul_bounds (show 0≤l by omega) l1 pb.1 pb.2
  have eV:2*v*d=2*(v*d):=Int.mul_assoc _ _ _
  rw[if_pos rfl]
  have e:szZ d l v u x=2*v*d+d+l*perZ d (d*d) (x*d) (u*d) (netsN x):=by rw[eV];unfold szZ;omega
  rw[e]
  exact refSize_yes d h l v u x t n _ _ _ rfl rfl (by omega) d1 (by omega) v1 (by omega) l1 (by omega) (by omega) (by omega) (by omega) (wrap_fits (by omega) (by omega)) (wrap_fits (by omega) (by omega)) (wrap_fits (by omega) (by omega)) (wrap_fits (by omega) (by omega)) (wrap_fits (by omega) (by omega)) k10 (layer_call d h l v u x t n ok) w
end
end Go.Proofs.YthliomlmhfjhnaaGreat
