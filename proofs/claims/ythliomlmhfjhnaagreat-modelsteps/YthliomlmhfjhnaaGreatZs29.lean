/- Texts put together. -/
import Derived.Test.YthliomlmhfjhnaaGreatZs8
import Derived.Test.YthliomlmhfjhnaaGreatZs13
namespace Go.Proofs.YthliomlmhfjhnaaGreat
set_option maxRecDepth 20000
set_option maxHeartbeats 16000000
open Go.ChangeShapes Go.WideShapes Go.ChangeAt Go.RowKit
set_option linter.unusedVariables false
set_option linter.unusedSimpArgs false
def netsN (x:Int):Nat:=(max x 1).toNat
def szZ (d l v u x:Int):Int:=v*d+l*perZ d (d*d) (x*d) (u*d) (netsN x)+d+v*d
theorem mul_bounds {a b A B:Int}(ha:0≤a)(ha':a≤A)(hb:0≤b)(hb':b≤B):0≤a*b∧a*b≤A*B :=
 ⟨Int.mul_nonneg ha hb,Int.mul_le_mul ha' hb' hb (by omega)⟩
structure Right (d h l v u x t n:Int):Prop where
 d0:2≤d
 d1:d≤8
 l0:1≤l
 l1:l≤2
 v0:2≤v
 v1:v≤16
 u0:1≤u
 u1:u≤8
 x0:0≤x
 x1:x≤4
 h0:1≤h
 h1:h≤4
 t0:0≤t
 t1:t≤4
 n0:0≤n
 n1:n≤16
theorem right_of {d h l v u x t n:Int}(ok:okB d h l v u x t n=true):Right d h l v u x t n:=by
 unfold okB headsB expertsB at ok
 simp only[Bool.and_eq_true,decide_eq_true_eq] at ok
 obtain⟨⟨a1,a2,a3,a4,a5⟩,a6,⟨a7,a8⟩,⟨a9,a10⟩,⟨a11,a12⟩,a13,a14⟩:=ok
 have:=heads_few a1 a2 a3 a4 a5
 exact⟨by omega,by omega,by omega,by omega,by omega,by omega,by omega,by omega,by omega,by omega,by omega,by omega,by omega,by omega,by omega,by omega⟩
theorem Right.nets {d h l v u x t n:Int}(r:Right d h l v u x t n):max x 1=(netsN x:Int)∧1≤netsN x∧netsN x≤4:=by
 have:=r.x0;have:=r.x1
 unfold netsN
 omega
theorem layer_call (d h l v u x t n:Int)(ok:okB d h l v u x t n=true)(w:World):Calls Tryz.prog 82 #[.agg #[.int .i64 d,.int .i64 h,.int .i64 l,.int .i64 v,.int .i64 u,.int .i64 x,.int .i64 t,.int .i64 n]] w fun e w'=>e=.returned (.int .i64 (perZ d (d*d) (x*d) (u*d) (netsN x)))∧Below w.heap.size w w':=by
 have r:=right_of ok
 obtain⟨hx,-,n4⟩:=r.nets
 have d0:=r.d0;have d1:=r.d1;have u0:=r.u0;have u1:=r.u1;have x0:=r.x0;have x1:=r.x1
 have p2:=mul_bounds (show 0≤d by omega) d1 (show 0≤d by omega) d1
 have p3:=mul_bounds r.x0 r.x1 (show 0≤d by omega) d1
 have p4:=mul_bounds (show 0≤u by omega) u1 (show 0≤d by omega) d1
 have eP:4*d*d=4*(d*d):=Int.mul_assoc _ _ _
 rcases Int.lt_trichotomy x 1 with h1|h1|h1
 ·have eN:netsN x=1:=by unfold netsN;omega
  have eB:2*u*d=2*(u*d):=Int.mul_assoc _ _ _
  have e:perZ d (d*d) (x*d) (u*d) (netsN x)=2*d+4*d*d+x*d+2*u*d:=by rw[eN,eP,eB];unfold perZ;omega
  rw[e]
  exact layer_few d h l v u x t n _ _ _ w rfl rfl rfl h1 (by omega) d1 (by omega) (by omega) (by omega) (by omega) (by omega) (by omega) (by omega) u1
 ·exfalso
  unfold okB expertsB at ok
  simp only[Bool.and_eq_true,decide_eq_true_eq] at ok
  omega
 ·have eN:(netsN x:Int)=x:=by rw[←hx];omega
  have q1:=mul_bounds (show 0≤x*2 by omega) (show x*2≤8 by omega) (show 0≤u by omega) u1
  have q2:=mul_bounds q1.1 (show x*2*u≤64 by omega) (show 0≤d by omega) d1
  have e:perZ d (d*d) (x*d) (u*d) (netsN x)=2*d+4*d*d+x*d+x*2*u*d:=by
   unfold perZ
   rw[eN,eP,show x*(u*d+u*d)=x*2*u*d by rw[Int.mul_assoc (x*2),Int.mul_assoc x];congr 1;omega]
   omega
  rw[e]
  exact layer_many d h l v u x t n _ _ _ _ w rfl rfl rfl rfl h1 x1 (by omega) d1 (by omega) (by omega) (by omega) (by omega) q2.1 (by omega) q1.1 (by omega) (by omega) u1
theorem wrap_fits {z:Int}(h0:0≤z)(h1:z≤1000000):IntKind.i64.wrap z=z:=by rw[IntKind.wrap_i64];omega
theorem per_bounds {d h l v u x t n:Int}(r:Right d h l v u x t n):0≤perZ d (d*d) (x*d) (u*d) (netsN x)∧perZ d (d*d) (x*d) (u*d) (netsN x)≤2000:=by
 obtain⟨hx,-,n4⟩:=r.nets
 have d0:=r.d0;have d1:=r.d1;have u0:=r.u0;have u1:=r.u1;have x0:=r.x0;have x1:=r.x1
 have p2:=mul_bounds (show 0≤d by omega) d1 (show 0≤d by omega) d1
 have p3:=mul_bounds r.x0 r.x1 (show 0≤d by omega) d1
 have p4:=mul_bounds (show 0≤u by omega) u1 (show 0≤d by omega) d1
 have p5:=int_upto n4 (show 0≤u*d+u*d by omega)
 unfold perZ
 omega
end Go.Proofs.YthliomlmhfjhnaaGreat
