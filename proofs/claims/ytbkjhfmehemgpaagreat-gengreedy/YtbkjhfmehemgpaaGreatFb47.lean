/- Texts put together. -/
import Derived.Test.YtbkjhfmehemgpaaGreatFb45
import Derived.Deep.Cut
namespace Go.Proofs.YtbkjhfmehemgpaaGreat
set_option maxRecDepth 20000
set_option maxHeartbeats 16000000
open Go.ChangeShapes Go.WideShapes Go.ChangeAt Go.RowKit
set_option linter.unusedVariables false
set_option linter.unusedSimpArgs false
abbrev Rq.cf (r:Rq):Cq:=⟨r.M.d,r.M.h,r.M.l,r.M.v,r.M.u,r.M.x,r.M.t,r.M.n⟩
def reqE (r:Rq)(ps:List Int):Int:=if badE r.M=0 then checkZ r.cf r.q ps else badE r.M
theorem rqcheck_call (r:Rq)(Y U D Ya:Nat→Nat→SL)(ps:List Int)(w:World)(h:RqAt w r Y U D Ya ps) :
  Calls Tryz.prog 18 #[r.w] w fun e w'=>e=.returned (.int .i64 (reqE r ps))∧Below w.heap.size w w':=by
 have hb:=bNw (Below.refl w.heap.size w) (.cells r.cs 55)
 have q0:=Blk.new 55 w r.cs
 have k1:=fun W (hb:Below w.heap.size w W)=>check_call r.M.d r.M.h r.M.l r.M.v r.M.u r.M.x r.M.t r.M.n r.E r.L r.N r.O Y U D r.M.m W (h.m.below hb)
 have k2:=fun W (hb:Below w.heap.size w W)=>grcheck_call r.M.r r.M.s r.M.d r.M.h r.M.l r.M.v r.M.u r.M.x r.M.t r.M.n r.La Ya r.M.a W (h.a.below hb)
 have k3:=fun W (hb:Below w.heap.size w W)=>akcheck_call r.cf r.q ps W (h.q.t.below hb)
 have RE:reqE r ps=if (if checkB r.M.d r.M.h r.M.l r.M.v r.M.u r.M.x r.M.t r.M.n r.M.m=0 then (if r.M.r=0 then 0 else checkA r.M.r r.M.s r.M.d r.M.h r.M.l r.M.v r.M.u r.M.x r.M.t r.M.n r.M.a) else checkB r.M.d r.M.h r.M.l r.M.v r.M.u r.M.x r.M.t r.M.n r.M.m)=0 then checkZ r.cf r.q ps else (if checkB r.M.d r.M.h r.M.l r.M.v r.M.u r.M.x r.M.t r.M.n r.M.m=0 then (if r.M.r=0 then 0 else checkA r.M.r r.M.s r.M.d r.M.h r.M.l r.M.v r.M.u r.M.x r.M.t r.M.n r.M.a) else checkB r.M.d r.M.h r.M.l r.M.v r.M.u r.M.x r.M.t r.M.n r.M.m):=rfl
 obtain⟨E1,e1⟩:∃ E1,checkB r.M.d r.M.h r.M.l r.M.v r.M.u r.M.x r.M.t r.M.n r.M.m=E1:=⟨_,rfl⟩
 obtain⟨E2,e2⟩:∃ E2,checkA r.M.r r.M.s r.M.d r.M.h r.M.l r.M.v r.M.u r.M.x r.M.t r.M.n r.M.a=E2:=⟨_,rfl⟩
 obtain⟨E3,e3⟩:∃ E3,checkZ r.cf r.q ps=E3:=⟨_,rfl⟩
 rw[e1] at k1
 rw[e2] at k2
 rw[e3] at k3
 rw[e1,e2,e3] at RE
 replace RE:=hdn RE
 obtain⟨W0,eW⟩:∃ W0,w.alloc (.cells r.cs 55)=W0:=⟨_,rfl⟩
 rw[eW] at hb q0
 have EW:=hdn eW
 clear eW h e1 e2 e3
 go_enter Tryz.func18,Tryz.ntmps18
 go_upto_region 1 with fail
 rw[EW.out]
 clear EW
 refine wp_region_tab0 (by kernel_rfl) rfl (fun W=>Below w.heap.size w W∧Blk 55 W w.heap.size r.cs) [.eq (.pointer (some ⟨w.heap.size,0,none⟩)),.eq r.mw,.eq (.int .i64 E1),.eq (.int .i64 E1)] ⟨hb,q0⟩ ⟨?_,?_,?c1,?_,trivial⟩ ?fin1
 case c1 =>
  rintro b u - ⟨hb,qb⟩ ⟨h1,-⟩ K hK
  replace h1:=show b.tmps.getD 6 undef=r.mw from h1
  dsimp only
  go_wp2_with (go_at_call 39;refine (k1 _ hb).mono ?_;rintro e W1 ⟨rfl,h⟩;exact hK _ _ h ⟨bTn hb h,qb.kept h⟩ rfl)
 case fin1 =>
  rintro g u ⟨hb,qb⟩ ⟨-,-,-,f1,-⟩
  replace f1:=show g 3=.int .i64 E1 from f1
  simp only[List.filterMap,List.foldl,f1,Act.put,List.setIfInBounds_toArray,List.set_cons_succ,List.set_cons_zero]
  clear f1 k1
  by_cases n1:E1=0
  case neg =>
   have t1:(E1==0)=false:=by simpa using n1
   go_wp2
   go_ret
   exact⟨by rw[RE.out];simp only[n1,if_false];rfl,hb⟩
  subst n1
  have n1:(0:Int)=0:=rfl
  have c12:u.cell? ⟨w.heap.size,12,none⟩=some (.int .i64 r.M.r):=qb.cell 12 rfl
  by_cases n2:r.M.r=0
  ·rw[n2] at c12
   go_upto_region 8 with fail
   refine wp_region_tab0 (by kernel_rfl) rfl (fun W=>Below w.heap.size w W∧Blk 55 W w.heap.size r.cs) [.eq (.pointer (some ⟨w.heap.size,0,none⟩)),.eq (.pointer (some ⟨w.heap.size,0,none⟩)),.eq r.cf.w,.eq (.pointer (some ⟨w.heap.size,15,none⟩)),.eq r.q.w,.eq (.int .i64 E3),.eq (.int .i64 E3)] ⟨hb,qb⟩ ⟨?_,?_,?_,?_,?_,?ca,?_,trivial⟩ ?fina
   case ca =>
    rintro b u - ⟨hb,qb⟩ ⟨h1,h2,-⟩ K hK
    replace h1:=show b.tmps.getD 26 undef=r.cf.w from h1
    replace h2:=show b.tmps.getD 28 undef=r.q.w from h2
    dsimp only
    go_wp2_with (go_at_call 35;refine (k3 _ hb).mono ?_;rintro e W1 ⟨rfl,h⟩;exact hK _ _ h ⟨bTn hb h,qb.kept h⟩ rfl)
   case fina =>
    rintro g u ⟨hb,qb⟩ ⟨-,-,-,-,-,-,f1,-⟩
    replace f1:=show g 2=.int .i64 E3 from f1
    simp only[List.filterMap,List.foldl,f1,Act.put,List.setIfInBounds_toArray,List.set_cons_succ,List.set_cons_zero]
    go_wp2
    go_ret
    exact⟨by rw[RE.out];try simp only[n1,n2,if_true,if_false];try rfl,hb⟩
   all_goals
    rintro b u - ⟨hb,qb⟩ hv K hK
    obtain⟨c0,c1,c2,c3,c4,c5,c6,c7,c8,c9,c10,c11,c12,c13,c14,c15,c16,c17,c18,c19,c20,c21,c22,c23⟩:=qb.rq
    first
     | (obtain⟨h1,h2,h3,-⟩:=hv;replace h1:=show b.tmps.getD _ undef=_ from h1;replace h2:=show b.tmps.getD _ undef=_ from h2;replace h3:=show b.tmps.getD _ undef=_ from h3)
     | (obtain⟨h1,h2,-⟩:=hv;replace h1:=show b.tmps.getD _ undef=_ from h1;replace h2:=show b.tmps.getD _ undef=_ from h2)
     | (obtain⟨h1,-⟩:=hv;replace h1:=show b.tmps.getD _ undef=_ from h1)
     | skip
    dsimp only
    go_simp
    exact hK _ _ (Below.refl _ _) ⟨hb,qb⟩ rfl
  have t2:(r.M.r==0)=false:=by simpa using n2
  go_upto_region 5 with fail
  refine wp_region_tab0 (by kernel_rfl) rfl (fun W=>Below w.heap.size w W∧Blk 55 W w.heap.size r.cs) [.eq (.pointer (some ⟨w.heap.size,12,none⟩)),.eq r.aw,.eq (.pointer (some ⟨w.heap.size,0,none⟩)),.eq (.pointer (some ⟨w.heap.size,0,none⟩)),.eq r.cf.w,.eq (.int .i64 E2),.eq (.int .i64 E2)] ⟨hb,qb⟩ ⟨?_,?_,?_,?_,?_,?c5,?_,trivial⟩ ?fin5
  case c5 =>
   rintro b u - ⟨hb,qb⟩ ⟨h1,h2,-⟩ K hK
   replace h1:=show b.tmps.getD 16 undef=r.aw from h1
   replace h2:=show b.tmps.getD 19 undef=r.cf.w from h2
   dsimp only
   go_wp2_with (go_at_call 40;refine (k2 _ hb).mono ?_;rintro e W1 ⟨rfl,h⟩;exact hK _ _ h ⟨bTn hb h,qb.kept h⟩ rfl)
  case fin5 =>
   rintro g u ⟨hb,qb⟩ ⟨-,-,-,-,-,-,f1,-⟩
   replace f1:=show g 4=.int .i64 E2 from f1
   simp only[List.filterMap,List.foldl,f1,Act.put,List.setIfInBounds_toArray,List.set_cons_succ,List.set_cons_zero]
   clear f1 k2
   by_cases n3:E2=0
   case neg =>
    have t3:(E2==0)=false:=by simpa using n3
    go_wp2
    go_ret
    exact⟨by rw[RE.out];simp only[n1,n2,n3,if_true,if_false];rfl,hb⟩
   subst n3
   go_upto_region 8 with fail
   refine wp_region_tab0 (by kernel_rfl) rfl (fun W=>Below w.heap.size w W∧Blk 55 W w.heap.size r.cs) [.eq (.pointer (some ⟨w.heap.size,0,none⟩)),.eq (.pointer (some ⟨w.heap.size,0,none⟩)),.eq r.cf.w,.eq (.pointer (some ⟨w.heap.size,15,none⟩)),.eq r.q.w,.eq (.int .i64 E3),.eq (.int .i64 E3)] ⟨hb,qb⟩ ⟨?_,?_,?_,?_,?_,?cb,?_,trivial⟩ ?finb
   case cb =>
    rintro b u - ⟨hb,qb⟩ ⟨h1,h2,-⟩ K hK
    replace h1:=show b.tmps.getD 26 undef=r.cf.w from h1
    replace h2:=show b.tmps.getD 28 undef=r.q.w from h2
    dsimp only
    go_wp2_with (go_at_call 35;refine (k3 _ hb).mono ?_;rintro e W1 ⟨rfl,h⟩;exact hK _ _ h ⟨bTn hb h,qb.kept h⟩ rfl)
   case finb =>
    rintro g u ⟨hb,qb⟩ ⟨-,-,-,-,-,-,f1,-⟩
    replace f1:=show g 2=.int .i64 E3 from f1
    simp only[List.filterMap,List.foldl,f1,Act.put,List.setIfInBounds_toArray,List.set_cons_succ,List.set_cons_zero]
    go_wp2
    go_ret
    exact⟨by rw[RE.out];try simp only[n1,n2,if_true,if_false];try rfl,hb⟩
   all_goals
    rintro b u - ⟨hb,qb⟩ hv K hK
    obtain⟨c0,c1,c2,c3,c4,c5,c6,c7,c8,c9,c10,c11,c12,c13,c14,c15,c16,c17,c18,c19,c20,c21,c22,c23⟩:=qb.rq
    first
     | (obtain⟨h1,h2,h3,-⟩:=hv;replace h1:=show b.tmps.getD _ undef=_ from h1;replace h2:=show b.tmps.getD _ undef=_ from h2;replace h3:=show b.tmps.getD _ undef=_ from h3)
     | (obtain⟨h1,h2,-⟩:=hv;replace h1:=show b.tmps.getD _ undef=_ from h1;replace h2:=show b.tmps.getD _ undef=_ from h2)
     | (obtain⟨h1,-⟩:=hv;replace h1:=show b.tmps.getD _ undef=_ from h1)
     | skip
    dsimp only
    go_simp
    exact hK _ _ (Below.refl _ _) ⟨hb,qb⟩ rfl
  all_goals
   rintro b u - ⟨hb,qb⟩ hv K hK
   obtain⟨c0,c1,c2,c3,c4,c5,c6,c7,c8,c9,c10,c11,c12,c13,c14,c15,c16,c17,c18,c19,c20,c21,c22,c23⟩:=qb.rq
   first
    | (obtain⟨h1,h2,h3,-⟩:=hv;replace h1:=show b.tmps.getD _ undef=_ from h1;replace h2:=show b.tmps.getD _ undef=_ from h2;replace h3:=show b.tmps.getD _ undef=_ from h3)
    | (obtain⟨h1,h2,-⟩:=hv;replace h1:=show b.tmps.getD _ undef=_ from h1;replace h2:=show b.tmps.getD _ undef=_ from h2)
    | (obtain⟨h1,-⟩:=hv;replace h1:=show b.tmps.getD _ undef=_ from h1)
    | skip
   dsimp only
   go_simp
   exact hK _ _ (Below.refl _ _) ⟨hb,qb⟩ rfl
 all_goals
  rintro b u - ⟨hb,qb⟩ hv K hK
  obtain⟨c0,c1,c2,c3,c4,c5,c6,c7,c8,c9,c10,c11,c12,c13,c14,c15,c16,c17,c18,c19,c20,c21,c22,c23⟩:=qb.rq
  first
   | (obtain⟨h1,h2,h3,-⟩:=hv;replace h1:=show b.tmps.getD _ undef=_ from h1;replace h2:=show b.tmps.getD _ undef=_ from h2;replace h3:=show b.tmps.getD _ undef=_ from h3)
   | (obtain⟨h1,h2,-⟩:=hv;replace h1:=show b.tmps.getD _ undef=_ from h1;replace h2:=show b.tmps.getD _ undef=_ from h2)
   | (obtain⟨h1,-⟩:=hv;replace h1:=show b.tmps.getD _ undef=_ from h1)
   | skip
  dsimp only
  go_simp
  exact hK _ _ (Below.refl _ _) ⟨hb,qb⟩ rfl
end Go.Proofs.YtbkjhfmehemgpaaGreat
