/- Texts put together: MdFaceC. -/
import Derived.Test.YtbkjhfmehemgpaaGreatRows
import Derived.Test.YtbkjhfmehemgpaaGreatFa38
import Derived.Test.YtbkjhfmehemgpaaGreatFa32
namespace Go.Proofs.YtbkjhfmehemgpaaGreat
set_option maxRecDepth 20000
set_option maxHeartbeats 16000000
open Go.ChangeShapes Go.WideShapes Go.ChangeAt Go.RowKit
set_option linter.unusedVariables false
set_option linter.unusedSimpArgs false
section
theorem Scores_yes (M:Md) (E L N O:SL) (Y U D:Nat→Nat→SL) (hE:checkB M.d M.h M.l M.v M.u M.x M.t M.n M.m=0) (F:MdFit M) (w:World) (hM:ModAt w E L N O Y U D M.m) (xa:Option Addr) (xn xc:Nat) (xs:List Int) (hx:Reads .i64 w xa xn xs) (hf:fitB O.n M.v xn=true) :
  Calls Tryz.prog 121 #[.agg #[.int .i64 M.d,.int .i64 M.h,.int .i64 M.l,.int .i64 M.v,.int .i64 M.u,.int .i64 M.x,.int .i64 M.t,.int .i64 M.n,.slice E.a E.n E.c,.slice L.a L.n L.c,.slice N.a N.n N.c,.slice O.a O.n O.c],.slice xa xn xc] w fun e w'=>(∃ a c,e=.returned (.tuple #[.slice a (O.n / xn) c,.int .i64 0])∧Reads .i64 w' a (O.n / xn) (matL M.m.o xs))∧Below w.heap.size w w':=by
 have hmf:∀ (fn:Fn) (first cap:Array Value) (w:World),(Instr.makeFunc fn first cap).run Tryz.prog w=.ok (.func fn first cap) w:=fun _ _ _ _=>rfl
 have hb0:=below_new (below_new (Below.refl w.heap.size w) (.cells #[.int .i64 M.d,.int .i64 M.h,.int .i64 M.l,.int .i64 M.v,.int .i64 M.u,.int .i64 M.x,.int .i64 M.t,.int .i64 M.n,.slice E.a E.n E.c,.slice L.a L.n L.c,.slice N.a N.n N.c,.slice O.a O.n O.c] 34)) (.cells #[.int .i64 0] 40)
 have q1:Blk 34 ((w.alloc (.cells #[.int .i64 M.d,.int .i64 M.h,.int .i64 M.l,.int .i64 M.v,.int .i64 M.u,.int .i64 M.x,.int .i64 M.t,.int .i64 M.n,.slice E.a E.n E.c,.slice L.a L.n L.c,.slice N.a N.n N.c,.slice O.a O.n O.c] 34)).alloc (.cells #[.int .i64 0] 40)) w.heap.size #[.int .i64 M.d,.int .i64 M.h,.int .i64 M.l,.int .i64 M.v,.int .i64 M.u,.int .i64 M.x,.int .i64 M.t,.int .i64 M.n,.slice E.a E.n E.c,.slice L.a L.n L.c,.slice N.a N.n N.c,.slice O.a O.n O.c]:=(Blk.new 34 w _).kept (below_new (Below.refl _ _) _)
 have q3:Blk 40 ((w.alloc (.cells #[.int .i64 M.d,.int .i64 M.h,.int .i64 M.l,.int .i64 M.v,.int .i64 M.u,.int .i64 M.x,.int .i64 M.t,.int .i64 M.n,.slice E.a E.n E.c,.slice L.a L.n L.c,.slice N.a N.n N.c,.slice O.a O.n O.c] 34)).alloc (.cells #[.int .i64 0] 40)) (w.heap.size+1) #[.int .i64 0]:=Blk.new_at 40 (w.alloc _) _ _ (by simp)
 have kc:=fun (W:World) (hb:Below w.heap.size w W)=>check_call M.d M.h M.l M.v M.u M.x M.t M.n E L N O Y U D M.m W (hM.below hb)
 rw[hE] at kc
 have hob:O.n*8≤140737488355328:=by
  have h:=F.o
  rw[hM.o.reads.len] at h
  have:M.v*(M.D:Int)≤16*8:=Int.le_trans (Int.mul_le_mul_of_nonneg_right F.v1 (by omega)) (Int.mul_le_mul_of_nonneg_left (by have:=F.d1;omega) (by omega))
  omega
 have km:=fun (W:World) (hb:Below w.heap.size w W)=>mat_yes O.a O.n O.c M.m.o M.v xa xn xc xs W (hM.o.reads.below hb) hM.o.cap (hx.below hb) hf hob
 clear hE
 go_enter_defers Tryz.func121,Tryz.ntmps121
 go_wp2
 refine sy_region M E L N O 0 w.heap.size q1 (by kernel_rfl) rfl ⟨_,rfl,rfl,rfl,rfl,by kernel_rfl⟩ ⟨_,rfl,rfl,rfl,rfl,by kernel_rfl⟩ ⟨_,rfl,rfl,rfl,rfl,by kernel_rfl⟩ ⟨_,rfl,rfl,rfl,rfl,by kernel_rfl⟩ ⟨_,rfl,rfl,rfl,rfl,by kernel_rfl⟩ rfl (fun W hb=>kc W (below_then hb0 hb)) (fun W=>mdmustM_yes M.d M.h M.l M.v M.u M.x M.t M.n E L N O W) (Nat.le_of_ble_eq_true rfl) ?_
 intro a W2 hs hd hkp hb2
 have ep:=frame_puts [7,8,9,10] hs hd (fun s h=>hkp s (fun j hj e=>h (by
  rcases (show j=0∨j=1∨j=2∨j=3∨j=4 by omega) with rfl | rfl | rfl | rfl | rfl<;>first | (simp only[syD,Option.some.injEq] at e;subst e;simp;done) | (simp[syD] at e))))
 simp only[List.foldl] at ep
 clear hs hd hkp
 generalize a.tmps.getD 7 undef=g7,a.tmps.getD 8 undef=g8,a.tmps.getD 9 undef=g9,a.tmps.getD 10 undef=g10 at ep
 simp only[Act.put,List.setIfInBounds_toArray,List.set_cons_succ,List.set_cons_zero] at ep
 subst ep
 have hb:=below_then hb0 hb2
 have Q3:=hidden_ (q3.kept hb2)
 obtain⟨c0,c1,c2,c3,c4,c5,c6,c7,c8,c9,c10,c11⟩:=(q1.kept hb2).c12
 clear q1 q3 hb0 hb2 kc
 go_wp2_with (first
  | (go_at_call 157;refine (km _ hb).mono ?_;rintro e W3 ⟨⟨cs,rfl,r3,-⟩,h3⟩;have hb3:=below_then hb h3;have z1:=(Q3.out.kept h3).cell 0 (v:=.int .i64 0) rfl;have z2:=(Q3.out.kept h3).open_ 0;clear h3 km hb)
  | (go_at_call 145;refine (mdmust_yes _ _ _ _).mono ?_;rintro e w' ⟨rfl,hq⟩;obtain rfl:=hq.symm;clear hq))
 refine leaves_cons (f:=156) (args:=#[.pointer (some ⟨w.heap.size+1,0,none⟩)]) (by simp) (by simp[go_sem]) ?_
 rw[set_same z1]
 refine (catch_idle45 ⟨w.heap.size+1,0,none⟩ 0 _ z1 z2).mono ?_
 rintro e u' w'' ⟨rfl,rfl,rfl⟩
 rw[set_same z1]
 simp[Leaves,settle,results,Tryz.results121,go_sem,z1]
 exact⟨r3,hb3⟩
end
end Go.Proofs.YtbkjhfmehemgpaaGreat
