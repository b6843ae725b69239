/- Texts put together. -/
import Derived.Test.YthliomlmhfjhnaaGreatRows
import Derived.Test.YthliomlmhfjhnaaGreatZf18
import Derived.Test.YthliomlmhfjhnaaGreatZf20
namespace Go.Proofs.YthliomlmhfjhnaaGreat
set_option maxRecDepth 20000
set_option maxHeartbeats 16000000
open Go.ChangeShapes Go.WideShapes Go.ChangeAt Go.RowKit
set_option linter.unusedVariables false
set_option linter.unusedSimpArgs false
section
def widthZ (d h l v u x t n:Int):Int:=if okB d h l v u x t n then 2*d*l else 0
theorem width_bounds {d h l v u x t n:Int}(ok:okB d h l v u x t n=true):0≤2*d∧2*d≤16∧0≤2*d*l∧2*d*l≤32:=by
 have r:=right_of ok
 have d0:=r.d0;have d1:=r.d1;have l0:=r.l0;have l1:=r.l1
 have p:=mul_bounds (show 0≤2*d by omega) (show 2*d≤16 by omega) (show 0≤l by omega) l1
 exact⟨by omega,by omega,p.1,by omega⟩
theorem md_width (d h l v u x t n:Int)(w:World):Calls Tryz.prog 15 #[.agg #[.int .i64 d,.int .i64 h,.int .i64 l,.int .i64 v,.int .i64 u,.int .i64 x,.int .i64 t,.int .i64 n]] w fun e w'=>e=.returned (.int .i64 (widthZ d h l v u x t n))∧Below w.heap.size w w':=by
 have kc:=config_call d h l v u x t n
 have hnot:∀ (x:Bool) (w:World),(Op.unary .not (.bool x)).run Tryz.prog w=.ok (.bool (!x)) w:=fun _ _=>rfl
 have hb:=bNw (Below.refl w.heap.size w) (.cells #[.int .i64 d,.int .i64 h,.int .i64 l,.int .i64 v,.int .i64 u,.int .i64 x,.int .i64 t,.int .i64 n] 23)
 have q:=Blk.new 23 w #[.int .i64 d,.int .i64 h,.int .i64 l,.int .i64 v,.int .i64 u,.int .i64 x,.int .i64 t,.int .i64 n]
 unfold widthZ
 cases ok:okB d h l v u x t n with
 | false =>
  simp only[ok] at kc
  go_enter Tryz.func15,Tryz.ntmps15
  go_wp2_with (go_at_call 35;refine (kc _).mono ?_;rintro e W1 ⟨rfl,h1⟩;replace hb:=bTn hb h1)
  go_ret
  exact⟨rfl,hb⟩
 | true =>
  simp only[ok] at kc
  have wb:=width_bounds ok
  obtain⟨p0,p1,p2,p3⟩:=wb
  obtain⟨p,ep⟩:∃ p,2*d*l=p:=⟨_,rfl⟩
  rw[ep] at p2 p3
  have HQ:=hdn q
  clear q
  go_enter Tryz.func15,Tryz.ntmps15
  go_wp2_with (go_at_call 35;refine (kc _).mono ?_;rintro e W1 ⟨rfl,h1⟩;replace hb:=bTn hb h1;have q1:=HQ.out.kept h1;obtain⟨z0,z1,z2,z3,z4,z5,z6,z7⟩:=q1.c8;clear h1 q1)
  go_ret
  exact⟨rfl,hb⟩
theorem grafted_no (R S:Int)(La:SL)(hR:R=0)(w:World):Calls Tryz.prog 53 #[.agg #[.int .i64 R,.int .i64 S,.slice La.a La.n La.c]] w fun e w'=>e=.returned (.bool false)∧Below w.heap.size w w':=by
 have hb:=bNw (Below.refl w.heap.size w) (.cells #[.int .i64 R,.int .i64 S,.slice La.a La.n La.c] 30)
 subst hR
 go_enter Tryz.func53,Tryz.ntmps53
 go_wp2
 go_ret
 exact⟨rfl,hb⟩
theorem grafted_yes (R S:Int)(La:SL)(hR:R≠0)(w:World):Calls Tryz.prog 53 #[.agg #[.int .i64 R,.int .i64 S,.slice La.a La.n La.c]] w fun e w'=>e=.returned (.bool true)∧Below w.heap.size w w':=by
 have hb:=bNw (Below.refl w.heap.size w) (.cells #[.int .i64 R,.int .i64 S,.slice La.a La.n La.c] 30)
 have z:(R==0)=false:=by simp[hR]
 have z':(R != 0)=true:=by simp[hR]
 go_enter Tryz.func53,Tryz.ntmps53
 go_wp2
 go_ret
 exact⟨rfl,hb⟩
theorem mdfits_loop (a:Option Addr)(n c:Nat)(A:Nat→Option Addr)(C:Nat→Nat)(P:Nat→List Int)(cnt wd:Int)(w:World)(h:Grid w a n A C P)(hn:(n:Int)=cnt)(B:Bool)(yes:(∀ r,r<n→((P r).length:Int)=wd)→B=true)(no:∀ r,r<n→¬((P r).length:Int)=wd→B=false) :
  Calls Tryz.prog 57 #[.slice a n c,.int .i64 cnt,.int .i64 wd] w fun e w'=>e=.returned (.bool B)∧w'=w:=by
 subst hn
 have hm:=h.max
 go_enter Tryz.func57,Tryz.ntmps57
 go_wp2
 go_loopw [15] (fun i wr=>∃ k:Nat,k≤n∧i=.int .i64 k∧wr=w∧∀ r,r<k→((P r).length:Int)=wd) (fun i _=>n-(intOf i).toNat)
 case atStart=>exact⟨0,Nat.zero_le _,rfl,rfl,fun r h=>by omega⟩
 case round =>
  obtain⟨k,hk,rfl,hw,hs⟩:=hrel
  subst hw
  by_cases hlt:k<n
  ·obtain⟨x,rfl⟩:=h.some_ (by omega)
   have cx:=h.cell x rfl k hlt
   have Hs:Hid (∀ r,r<k→((P r).length:Int)=wd):=hs
   have nk:=no k hlt
   have hl:=(h.row k hlt).max
   clear hs h no
   obtain⟨g,eg⟩:∃ g,(P k).length=g:=⟨_,rfl⟩
   rw[eg] at cx nk hl
   have Eg:Hid ((P k).length=g):=eg
   clear eg
   by_cases e1:(g:Int)=wd
   ·subst e1
    clear nk
    go_wp2
    go_roundw
    case rel =>
     refine⟨k+1,by omega,by go_num,trivial,fun r hr=>?_⟩
     by_cases e:r=k
     ·subst e;rw[Eg.out]
     ·exact Hs.out r (by omega)
    case measure=>simp[intOf];omega
   ·have z1:((g:Int)==wd)=false:=by simp[e1]
    have z2:((g:Int) != wd)=true:=by simp[e1]
    have hB:=nk e1
    clear nk
    go_wp2
    go_ret
    exact⟨by rw[hB];rfl,rfl⟩
  ·have e:k=n:=by omega
   subst e
   have hB:=yes hs
   clear hs no yes
   go_wp2
   go_ret
   exact⟨by rw[hB];rfl,rfl⟩
end
end Go.Proofs.YthliomlmhfjhnaaGreat
