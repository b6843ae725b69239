/- Texts put together: MdFaceR, GxCk. -/
import Derived.Test.YtbkjhfmehemgpaaGreatRows
import Derived.Test.YtbkjhfmehemgpaaGreatFa38
import Derived.Test.YtbkjhfmehemgpaaGreatFa30
import Derived.Test.YtbkjhfmehemgpaaGreatFa12
import Derived.Deep.Cut
namespace Go.Proofs.YtbkjhfmehemgpaaGreat
set_option maxRecDepth 20000
set_option maxHeartbeats 16000000
open Go.ChangeShapes Go.WideShapes Go.ChangeAt Go.RowKit
set_option linter.unusedVariables false
set_option linter.unusedSimpArgs false
section
theorem Run_ok (M:Md) (E L N O:SL) (Y U D:Nat→Nat→SL) (La:SL) (Ya:Nat→Nat→SL) (w:World) (hM:ModAt w E L N O Y U D M.m) (hA:AdAt w La Ya M.a) (ta:Option Addr) (n tc:Nat) (RP:World→Option Addr→Nat→Nat→Option Addr→Nat→Nat→Prop) (hE:badE M=0) (k:∀ W,Below w.heap.size w W→Calls Tryz.prog 76 #[.agg #[.int .i64 M.d,.int .i64 M.h,.int .i64 M.l,.int .i64 M.v,.int .i64 M.u,.int .i64 M.x,.int .i64 M.t,.int .i64 M.n,.slice E.a E.n E.c,.slice L.a L.n L.c,.slice N.a N.n N.c,.slice O.a O.n O.c],.agg #[.int .i64 M.r,.int .i64 M.s,.slice La.a La.n La.c],.slice ta n tc] W fun e w'=>(∃ a m c b j k,e=.returned (.tuple #[.slice a m c,.slice b j k])∧RP w' a m c b j k)∧Below W.heap.size W w') :
  Calls Tryz.prog 41 #[.agg #[.int .i64 M.d,.int .i64 M.h,.int .i64 M.l,.int .i64 M.v,.int .i64 M.u,.int .i64 M.x,.int .i64 M.t,.int .i64 M.n,.slice E.a E.n E.c,.slice L.a L.n L.c,.slice N.a N.n N.c,.slice O.a O.n O.c],.agg #[.int .i64 M.r,.int .i64 M.s,.slice La.a La.n La.c],.slice ta n tc] w fun e w'=>(∃ a m c b j k,e=.returned (.tuple #[.slice a m c,.slice b j k,.int .i64 0])∧RP w' a m c b j k)∧Below w.heap.size w w':=by
 have hmf:∀ (fn:Fn) (first cap:Array Value) (w:World),(Instr.makeFunc fn first cap).run Tryz.prog w=.ok (.func fn first cap) w:=fun _ _ _ _=>rfl
 have hb0:=below_new (below_new (below_new (Below.refl w.heap.size w) (.cells #[.int .i64 M.d,.int .i64 M.h,.int .i64 M.l,.int .i64 M.v,.int .i64 M.u,.int .i64 M.x,.int .i64 M.t,.int .i64 M.n,.slice E.a E.n E.c,.slice L.a L.n L.c,.slice N.a N.n N.c,.slice O.a O.n O.c] 34)) (.cells #[.int .i64 M.r,.int .i64 M.s,.slice La.a La.n La.c] 37)) (.cells #[.int .i64 0] 40)
 have q1:Blk 34 (((w.alloc (.cells #[.int .i64 M.d,.int .i64 M.h,.int .i64 M.l,.int .i64 M.v,.int .i64 M.u,.int .i64 M.x,.int .i64 M.t,.int .i64 M.n,.slice E.a E.n E.c,.slice L.a L.n L.c,.slice N.a N.n N.c,.slice O.a O.n O.c] 34)).alloc (.cells #[.int .i64 M.r,.int .i64 M.s,.slice La.a La.n La.c] 37)).alloc (.cells #[.int .i64 0] 40)) w.heap.size #[.int .i64 M.d,.int .i64 M.h,.int .i64 M.l,.int .i64 M.v,.int .i64 M.u,.int .i64 M.x,.int .i64 M.t,.int .i64 M.n,.slice E.a E.n E.c,.slice L.a L.n L.c,.slice N.a N.n N.c,.slice O.a O.n O.c]:=(Blk.new 34 w _).kept (below_new (below_new (Below.refl _ _) _) _)
 have q2:Blk 37 (((w.alloc (.cells #[.int .i64 M.d,.int .i64 M.h,.int .i64 M.l,.int .i64 M.v,.int .i64 M.u,.int .i64 M.x,.int .i64 M.t,.int .i64 M.n,.slice E.a E.n E.c,.slice L.a L.n L.c,.slice N.a N.n N.c,.slice O.a O.n O.c] 34)).alloc (.cells #[.int .i64 M.r,.int .i64 M.s,.slice La.a La.n La.c] 37)).alloc (.cells #[.int .i64 0] 40)) (w.heap.size+1) #[.int .i64 M.r,.int .i64 M.s,.slice La.a La.n La.c]:=(Blk.new_at 37 (w.alloc _) _ _ (by simp)).kept (below_new (Below.refl _ _) _)
 have q3:Blk 40 (((w.alloc (.cells #[.int .i64 M.d,.int .i64 M.h,.int .i64 M.l,.int .i64 M.v,.int .i64 M.u,.int .i64 M.x,.int .i64 M.t,.int .i64 M.n,.slice E.a E.n E.c,.slice L.a L.n L.c,.slice N.a N.n N.c,.slice O.a O.n O.c] 34)).alloc (.cells #[.int .i64 M.r,.int .i64 M.s,.slice La.a La.n La.c] 37)).alloc (.cells #[.int .i64 0] 40)) (w.heap.size+1+1) #[.int .i64 0]:=Blk.new_at 40 ((w.alloc _).alloc _) _ _ (by simp)
 obtain⟨c0,c1,c2,c3,c4,c5,c6,c7,c8,c9,c10,c11⟩:=q1.c12
 obtain⟨s0,s1,s2⟩:=q2.c3
 have k29:=checked_ok M E L N O Y U D La Ya (((w.alloc (.cells #[.int .i64 M.d,.int .i64 M.h,.int .i64 M.l,.int .i64 M.v,.int .i64 M.u,.int .i64 M.x,.int .i64 M.t,.int .i64 M.n,.slice E.a E.n E.c,.slice L.a L.n L.c,.slice N.a N.n N.c,.slice O.a O.n O.c] 34)).alloc (.cells #[.int .i64 M.r,.int .i64 M.s,.slice La.a La.n La.c] 37)).alloc (.cells #[.int .i64 0] 40)) (hM.below hb0) (hA.below hb0) hE
 go_enter_defers Tryz.func41,Tryz.ntmps41
 go_wp2_with (first
  | (go_at_call 75;refine k29.mono ?_;rintro e W1 ⟨rfl,h1⟩;clear k29;have hb1:=below_then hb0 h1;have Q1:=hidden_ (q1.kept h1);have Q2:=hidden_ (q2.kept h1);have Q3:=hidden_ (q3.kept h1);obtain⟨d0,d1,d2,d3,d4,d5,d6,d7,d8,d9,d10,d11⟩:=Q1.out.c12;obtain⟨t0,t1,t2⟩:=Q2.out.c3;obtain⟨o0,o1,o2,o3,o4,o5,o6,o7,o8,o9,o10,o11⟩:=Q1.out.o12;obtain⟨u0,u1,u2⟩:=Q2.out.o3;have E0:=set_same d0;have E1:=set_same d1;have E2:=set_same d2;have E3:=set_same d3;have E4:=set_same d4;have E5:=set_same d5;have E6:=set_same d6;have E7:=set_same d7;have E8:=set_same d8;have E9:=set_same d9;have E10:=set_same d10;have E11:=set_same d11;have F0:=set_same t0;have F1:=set_same t1;have F2:=set_same t2;clear h1 hb0 q1 q2 q3 c0 c1 c2 c3 c4 c5 c6 c7 c8 c9 c10 c11 s0 s1 s2)
  | (go_at_call 76;refine (k _ hb1).mono ?_;rintro e W2 ⟨⟨a9,m9,c9,b9,j9,k9,rfl,yy⟩,h2⟩;have hb2:=below_then hb1 h2;have z1:=(Q3.out.kept h2).cell 0 (v:=.int .i64 0) rfl;have z2:=(Q3.out.kept h2).open_ 0;have H:=hidden_ (And.intro yy hb2);clear h2 yy hb2 k))
 refine leaves_cons (f:=73) (args:=#[.pointer (some ⟨w.heap.size+1+1,0,none⟩)]) (by simp) (by simp[go_sem]) ?_
 rw[set_same z1]
 refine (catch_idle43 ⟨w.heap.size+1+1,0,none⟩ 0 _ z1 z2).mono ?_
 rintro e u' w'' ⟨rfl,rfl,rfl⟩
 rw[set_same z1]
 simp[Leaves,settle,results,Tryz.results41,go_sem,z1]
 exact⟨⟨a9,m9,c9,b9,j9,k9,⟨⟨rfl,rfl,rfl⟩,⟨rfl,rfl,rfl⟩⟩,H.out.1⟩,H.out.2⟩
end
section
abbrev Rq.cf (r:Rq):Cq:=⟨r.M.d,r.M.h,r.M.l,r.M.v,r.M.u,r.M.x,r.M.t,r.M.n⟩
def reqE (r:Rq) (ps:List Int):Int:=if badE r.M=0 then checkZ r.cf r.q ps else badE r.M
theorem rqcheck_call (r:Rq) (Y U D Ya:Nat→Nat→SL) (ps:List Int) (w:World) (h:RqAt w r Y U D Ya ps) :
  Calls Tryz.prog 18 #[r.w] w fun e w'=>e=.returned (.int .i64 (reqE r ps))∧Below w.heap.size w w':=by
 have hb:=below_new (Below.refl w.heap.size w) (.cells r.cs 55)
 have q0:=Blk.new 55 w r.cs
 have k1:=fun W (hb:Below w.heap.size w W)=>check_call r.M.d r.M.h r.M.l r.M.v r.M.u r.M.x r.M.t r.M.n r.E r.L r.N r.O Y U D r.M.m W (h.m.below hb)
 have k2:=fun W (hb:Below w.heap.size w W)=>grcheck_call r.M.r r.M.s r.M.d r.M.h r.M.l r.M.v r.M.u r.M.x r.M.t r.M.n r.La Ya r.M.a W (h.a.below hb)
 have k3:=fun W (hb:Below w.heap.size w W)=>akcheck_call r.cf r.q ps W (h.q.t.below hb)
 have RE:reqE r ps=if (if checkB r.M.d r.M.h r.M.l r.M.v r.M.u r.M.x r.M.t r.M.n r.M.m=0 then (if r.M.r=0 then 0 else checkA r.M.r r.M.s r.M.d r.M.h r.M.l r.M.v r.M.u r.M.x r.M.t r.M.n r.M.a) else checkB r.M.d r.M.h r.M.l r.M.v r.M.u r.M.x r.M.t r.M.n r.M.m)=0 then checkZ r.cf r.q ps else (if checkB r.M.d r.M.h r.M.l r.M.v r.M.u r.M.x r.M.t r.M.n r.M.m=0 then (if r.M.r=0 then 0 else checkA r.M.r r.M.s r.M.d r.M.h r.M.l r.M.v r.M.u r.M.x r.M.t r.M.n r.M.a) else checkB r.M.d r.M.h r.M.l r.M.v r.M.u r.M.x r.M.t r.M.n r.M.m):=rfl
 obtain⟨E1,e1⟩:∃ E1,checkB r.M.d r.M.h r.M.l r.M.v r.M.u r.M.x r.M.t r.M.n r.M.m=E1:=⟨_,rfl⟩
 obtain⟨E2,e2⟩:∃ E2,checkA r.M.r r.M.s r.M.d r.M.h r.M.l r.M.v r.M.u r.M.x r.M.t r.M.n r.M.a=E2:=⟨_,rfl⟩
 obtain⟨E3,e3⟩:∃ E3,checkZ r.cf r.q ps=E3:=⟨_,rfl⟩
 rw[e1] at k1
 rw[e2] at k2
 rw[e3] at k3
 rw[e1,e2,e3] at RE
 replace RE:=hidden_ RE
 obtain⟨W0,eW⟩:∃ W0,w.alloc (.cells r.cs 55)=W0:=⟨_,rfl⟩
 rw[eW] at hb q0
 have EW:=hidden_ eW
 clear eW h e1 e2 e3
 go_enter Tryz.func18,Tryz.ntmps18
 go_upto_region 1 with fail
 rw[EW.out]
 clear EW
 refine wp_region_tab0 (by kernel_rfl) rfl (fun W=>Below w.heap.size w W∧Blk 55 W w.heap.size r.cs) [.eq (.pointer (some ⟨w.heap.size,0,none⟩)),.eq r.mw,.eq (.int .i64 E1),.eq (.int .i64 E1)] ⟨hb,q0⟩ ⟨?_,?_,?c1,?_,trivial⟩ ?fin1
 case c1 =>
  rintro b u - ⟨hb,qb⟩ ⟨h1,-⟩ K hK
  replace h1:=show b.tmps.getD 6 undef=r.mw from h1
  dsimp only
  go_wp2_with (go_at_call 39;refine (k1 _ hb).mono ?_;rintro e W1 ⟨rfl,h⟩;exact hK _ _ h ⟨below_then hb h,qb.kept h⟩ rfl)
 case fin1 =>
  rintro g u ⟨hb,qb⟩ ⟨-,-,-,f1,-⟩
  replace f1:=show g 3=.int .i64 E1 from f1
  simp only[List.filterMap,List.foldl,f1,Act.put,List.setIfInBounds_toArray,List.set_cons_succ,List.set_cons_zero]
  clear f1 k1
  by_cases n1:E1=0
  case neg =>
   have t1:(E1 == 0)=false:=by simpa using n1
   go_wp2
   go_ret
   exact⟨by rw[RE.out];simp only[n1,if_false];rfl,hb⟩
  subst n1
  have n1:(0:Int)=0:=rfl
  have c12:u.cell? ⟨w.heap.size,12,none⟩=some (.int .i64 r.M.r):=qb.cell 12 rfl
  by_cases n2:r.M.r=0
  ·rw[n2] at c12
   go_upto_region 8 with fail
   refine wp_region_tab0 (by kernel_rfl) rfl (fun W=>Below w.heap.size w W∧Blk 55 W w.heap.size r.cs) [.eq (.pointer (some ⟨w.heap.size,0,none⟩)),.eq (.pointer (some ⟨w.heap.size,0,none⟩)),.eq r.cf.w,.eq (.pointer (some ⟨w.heap.size,15,none⟩)),.eq r.q.w,.eq (.int .i64 E3),.eq (.int .i64 E3)] ⟨hb,qb⟩ ⟨?_,?_,?_,?_,?_,?ca,?_,trivial⟩ ?fina
   case ca =>
    rintro b u - ⟨hb,qb⟩ ⟨h1,h2,-⟩ K hK
    replace h1:=show b.tmps.getD 26 undef=r.cf.w from h1
    replace h2:=show b.tmps.getD 28 undef=r.q.w from h2
    dsimp only
    go_wp2_with (go_at_call 35;refine (k3 _ hb).mono ?_;rintro e W1 ⟨rfl,h⟩;exact hK _ _ h ⟨below_then hb h,qb.kept h⟩ rfl)
   case fina =>
    rintro g u ⟨hb,qb⟩ ⟨-,-,-,-,-,-,f1,-⟩
    replace f1:=show g 2=.int .i64 E3 from f1
    simp only[List.filterMap,List.foldl,f1,Act.put,List.setIfInBounds_toArray,List.set_cons_succ,List.set_cons_zero]
    go_wp2
    go_ret
    exact⟨by rw[RE.out];try simp only[n1,n2,if_true,if_false];try rfl,hb⟩
   all_goals
    rintro b u - ⟨hb,qb⟩ hv K hK
    obtain⟨c0,c1,c2,c3,c4,c5,c6,c7,c8,c9,c10,c11,c12,c13,c14,c15,c16,c17,c18,c19,c20,c21,c22,c23⟩:=qb.rq
    first
     | (obtain⟨h1,h2,h3,-⟩:=hv;replace h1:=show b.tmps.getD _ undef=_ from h1;replace h2:=show b.tmps.getD _ undef=_ from h2;replace h3:=show b.tmps.getD _ undef=_ from h3)
     | (obtain⟨h1,h2,-⟩:=hv;replace h1:=show b.tmps.getD _ undef=_ from h1;replace h2:=show b.tmps.getD _ undef=_ from h2)
     | (obtain⟨h1,-⟩:=hv;replace h1:=show b.tmps.getD _ undef=_ from h1)
     | skip
    dsimp only
    go_simp
    exact hK _ _ (Below.refl _ _) ⟨hb,qb⟩ rfl
  have t2:(r.M.r == 0)=false:=by simpa using n2
  go_upto_region 5 with fail
  refine wp_region_tab0 (by kernel_rfl) rfl (fun W=>Below w.heap.size w W∧Blk 55 W w.heap.size r.cs) [.eq (.pointer (some ⟨w.heap.size,12,none⟩)),.eq r.aw,.eq (.pointer (some ⟨w.heap.size,0,none⟩)),.eq (.pointer (some ⟨w.heap.size,0,none⟩)),.eq r.cf.w,.eq (.int .i64 E2),.eq (.int .i64 E2)] ⟨hb,qb⟩ ⟨?_,?_,?_,?_,?_,?c5,?_,trivial⟩ ?fin5
  case c5 =>
   rintro b u - ⟨hb,qb⟩ ⟨h1,h2,-⟩ K hK
   replace h1:=show b.tmps.getD 16 undef=r.aw from h1
   replace h2:=show b.tmps.getD 19 undef=r.cf.w from h2
   dsimp only
   go_wp2_with (go_at_call 40;refine (k2 _ hb).mono ?_;rintro e W1 ⟨rfl,h⟩;exact hK _ _ h ⟨below_then hb h,qb.kept h⟩ rfl)
  case fin5 =>
   rintro g u ⟨hb,qb⟩ ⟨-,-,-,-,-,-,f1,-⟩
   replace f1:=show g 4=.int .i64 E2 from f1
   simp only[List.filterMap,List.foldl,f1,Act.put,List.setIfInBounds_toArray,List.set_cons_succ,List.set_cons_zero]
   clear f1 k2
   by_cases n3:E2=0
   case neg =>
    have t3:(E2 == 0)=false:=by simpa using n3
    go_wp2
    go_ret
    exact⟨by rw[RE.out];simp only[n1,n2,n3,if_true,if_false];rfl,hb⟩
   subst n3
   go_upto_region 8 with fail
   refine wp_region_tab0 (by kernel_rfl) rfl (fun W=>Below w.heap.size w W∧Blk 55 W w.heap.size r.cs) [.eq (.pointer (some ⟨w.heap.size,0,none⟩)),.eq (.pointer (some ⟨w.heap.size,0,none⟩)),.eq r.cf.w,.eq (.pointer (some ⟨w.heap.size,15,none⟩)),.eq r.q.w,.eq (.int .i64 E3),.eq (.int .i64 E3)] ⟨hb,qb⟩ ⟨?_,?_,?_,?_,?_,?cb,?_,trivial⟩ ?finb
   case cb =>
    rintro b u - ⟨hb,qb⟩ ⟨h1,h2,-⟩ K hK
    replace h1:=show b.tmps.getD 26 undef=r.cf.w from h1
    replace h2:=show b.tmps.getD 28 undef=r.q.w from h2
    dsimp only
    go_wp2_with (go_at_call 35;refine (k3 _ hb).mono ?_;rintro e W1 ⟨rfl,h⟩;exact hK _ _ h ⟨below_then hb h,qb.kept h⟩ rfl)
   case finb =>
    rintro g u ⟨hb,qb⟩ ⟨-,-,-,-,-,-,f1,-⟩
    replace f1:=show g 2=.int .i64 E3 from f1
    simp only[List.filterMap,List.foldl,f1,Act.put,List.setIfInBounds_toArray,List.set_cons_succ,List.set_cons_zero]
    go_wp2
    go_ret
    exact⟨by rw[RE.out];try simp only[n1,n2,if_true,if_false];try rfl,hb⟩
   all_goals
    rintro b u - ⟨hb,qb⟩ hv K hK
    obtain⟨c0,c1,c2,c3,c4,c5,c6,c7,c8,c9,c10,c11,c12,c13,c14,c15,c16,c17,c18,c19,c20,c21,c22,c23⟩:=qb.rq
    first
     | (obtain⟨h1,h2,h3,-⟩:=hv;replace h1:=show b.tmps.getD _ undef=_ from h1;replace h2:=show b.tmps.getD _ undef=_ from h2;replace h3:=show b.tmps.getD _ undef=_ from h3)
     | (obtain⟨h1,h2,-⟩:=hv;replace h1:=show b.tmps.getD _ undef=_ from h1;replace h2:=show b.tmps.getD _ undef=_ from h2)
     | (obtain⟨h1,-⟩:=hv;replace h1:=show b.tmps.getD _ undef=_ from h1)
     | skip
    dsimp only
    go_simp
    exact hK _ _ (Below.refl _ _) ⟨hb,qb⟩ rfl
  all_goals
   rintro b u - ⟨hb,qb⟩ hv K hK
   obtain⟨c0,c1,c2,c3,c4,c5,c6,c7,c8,c9,c10,c11,c12,c13,c14,c15,c16,c17,c18,c19,c20,c21,c22,c23⟩:=qb.rq
   first
    | (obtain⟨h1,h2,h3,-⟩:=hv;replace h1:=show b.tmps.getD _ undef=_ from h1;replace h2:=show b.tmps.getD _ undef=_ from h2;replace h3:=show b.tmps.getD _ undef=_ from h3)
    | (obtain⟨h1,h2,-⟩:=hv;replace h1:=show b.tmps.getD _ undef=_ from h1;replace h2:=show b.tmps.getD _ undef=_ from h2)
    | (obtain⟨h1,-⟩:=hv;replace h1:=show b.tmps.getD _ undef=_ from h1)
    | skip
   dsimp only
   go_simp
   exact hK _ _ (Below.refl _ _) ⟨hb,qb⟩ rfl
 all_goals
  rintro b u - ⟨hb,qb⟩ hv K hK
  obtain⟨c0,c1,c2,c3,c4,c5,c6,c7,c8,c9,c10,c11,c12,c13,c14,c15,c16,c17,c18,c19,c20,c21,c22,c23⟩:=qb.rq
  first
   | (obtain⟨h1,h2,h3,-⟩:=hv;replace h1:=show b.tmps.getD _ undef=_ from h1;replace h2:=show b.tmps.getD _ undef=_ from h2;replace h3:=show b.tmps.getD _ undef=_ from h3)
   | (obtain⟨h1,h2,-⟩:=hv;replace h1:=show b.tmps.getD _ undef=_ from h1;replace h2:=show b.tmps.getD _ undef=_ from h2)
   | (obtain⟨h1,-⟩:=hv;replace h1:=show b.tmps.getD _ undef=_ from h1)
   | skip
  dsimp only
  go_simp
  exact hK _ _ (Below.refl _ _) ⟨hb,qb⟩ rfl
end
end Go.Proofs.YtbkjhfmehemgpaaGreat
