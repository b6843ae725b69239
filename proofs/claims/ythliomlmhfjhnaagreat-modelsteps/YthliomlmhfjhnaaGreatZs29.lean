/- Texts put together. -/
import Derived.Test.YthliomlmhfjhnaaGreatZs8
import Derived.Test.YthliomlmhfjhnaaGreatZs13
namespace Go.Proofs.YthliomlmhfjhnaaGreat
set_option maxRecDepth 20000
set_option maxHeartbeats 16000000
open Go.ChangeShapes Go.WideShapes Go.ChangeAt Go.RowKit
set_option linter.unusedVariables false
set_option linter.unusedSimpArgs false
def netsN (x:Int):Nat:=(max x 1).toNat
def szZ (d l v u x:Int):Int:=v*d+l*perZ d (d*d) (x*d) (u*d) (netsN x)+d+v*d
theorem mul_bounds {a b A B:Int}(ha:0≤a)(ha':a≤A)(hb:0≤b)(hb':b≤B):0≤a*b∧a*b≤A*B :=
 ⟨Int.mul_nonneg ha hb,Int.mul_le_mul ha' hb' hb (by omega)⟩
structure Right (d h l v u x t n:Int):Prop where
 d0:2≤d
 d1:d≤8
 l0:1≤l
 l1:l≤2
 v0:2≤v
 v1:v≤16
 u0:1≤u
 u1:u≤8
 x0:0≤x
 x1:x≤4
 h0:1≤h
 h1:h≤4
 t0:0≤t
 t1:t≤4
 n0:0≤n
 n1:n≤16
theorem right_of {d h l v u x t n:Int}(ok:okB d h l v u x t n=true):Right d h l v u x t n:=by
 unfold okB headsB expertsB at ok
 simp only[Bool.and_eq_true,decide_eq_true_eq] at ok
 obtain⟨⟨a1,a2,a3,a4,a5⟩,a6,⟨a7,a8⟩,⟨a9,a10⟩,⟨a11,a12⟩,a13,a14⟩:=ok
 have:=heads_few a1 a2 a3 a4 a5
 exact⟨by omega,by omega,by omega,by omega,by omega,by omega,by omega,by omega,by omega,by omega,by omega,by omega,by omega,by omega,by omega,by omega⟩
theorem Right.nets {d h l v u x t n:Int}(r:Right d h l v u x t n):max x 1=(netsN x:Int)∧1≤netsN x∧netsN x≤4:=by
 have:=r.x0;have:=r.x1
 unfold netsN
 omega
theorem wrap_fits {z:Int}(h0:0≤z)(h1:z≤1000000):IntKind.i64.wrap z=z:=by rw[IntKind.wrap_i64];omega
theorem per_bounds {d h l v u x t n:Int}(r:Right d h l v u x t n):0≤perZ d (d*d) (x*d) (u*d) (netsN x)∧perZ d (d*d) (x*d) (u*d) (netsN x)≤2000:=by
 obtain⟨hx,-,n4⟩:=r.nets
 have d0:=r.d0;have d1:=r.d1;have u0:=r.u0;have u1:=r.u1;have x0:=r.x0;have x1:=r.x1
 have p2:=mul_bounds (show 0≤d by omega) d1 (show 0≤d by omega) d1
 have p3:=mul_bounds r.x0 r.x1 (show 0≤d by omega) d1
 have p4:=mul_bounds (show 0≤u by omega) u1 (show 0≤d by omega) d1
 have p5:=int_upto n4 (show 0≤u*d+u*d by omega)
 unfold perZ
 omega
end Go.Proofs.YthliomlmhfjhnaaGreat
