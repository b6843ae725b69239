/- Texts put together. -/
import Derived.Test.YthliomlmhfjhnaaGreatZs48
import Derived.Test.YthliomlmhfjhnaaGreatZs39
namespace Go.Proofs.YthliomlmhfjhnaaGreat
set_option maxRecDepth 20000
set_option maxHeartbeats 16000000
open Go.ChangeShapes Go.WideShapes Go.ChangeAt Go.RowKit
set_option linter.unusedVariables false
set_option linter.unusedSimpArgs false
theorem rdstep_bad (M:Md)(E L N O:SL)(Y U D:Nat→Nat→SL)(La:SL)(Ya:Nat→Nat→SL)(hE:¬badE M=0)(w:World)(hM:ModAt w E L N O Y U D M.m)(hA:AdAt w La Ya M.a)(hml:M.m.ln≤9223372036854775807)(hal:M.a.ln≤9223372036854775807)(pa:Option Addr)(n pc:Nat)(p tok:Int) :
  Calls Tryz.prog 13 #[.agg #[.int .i64 M.d,.int .i64 M.h,.int .i64 M.l,.int .i64 M.v,.int .i64 M.u,.int .i64 M.x,.int .i64 M.t,.int .i64 M.n,.slice E.a E.n E.c,.slice L.a L.n L.c,.slice N.a N.n N.c,.slice O.a O.n O.c],.agg #[.int .i64 M.r,.int .i64 M.s,.slice La.a La.n La.c],.slice pa n pc,.int .i64 p,.int .i64 tok] w fun e w'=>e=.returned (.tuple #[.slice none 0 0,.slice none 0 0,.int .i64 (badE M)])∧Below w.heap.size w w':=by
 have hb0:=bNw (bNw (Below.refl w.heap.size w) (.cells #[.int .i64 M.d,.int .i64 M.h,.int .i64 M.l,.int .i64 M.v,.int .i64 M.u,.int .i64 M.x,.int .i64 M.t,.int .i64 M.n,.slice E.a E.n E.c,.slice L.a L.n L.c,.slice N.a N.n N.c,.slice O.a O.n O.c] 27)) (.cells #[.int .i64 M.r,.int .i64 M.s,.slice La.a La.n La.c] 30)
 have q1:Blk 27 ((w.alloc (.cells #[.int .i64 M.d,.int .i64 M.h,.int .i64 M.l,.int .i64 M.v,.int .i64 M.u,.int .i64 M.x,.int .i64 M.t,.int .i64 M.n,.slice E.a E.n E.c,.slice L.a L.n L.c,.slice N.a N.n N.c,.slice O.a O.n O.c] 27)).alloc (.cells #[.int .i64 M.r,.int .i64 M.s,.slice La.a La.n La.c] 30)) w.heap.size #[.int .i64 M.d,.int .i64 M.h,.int .i64 M.l,.int .i64 M.v,.int .i64 M.u,.int .i64 M.x,.int .i64 M.t,.int .i64 M.n,.slice E.a E.n E.c,.slice L.a L.n L.c,.slice N.a N.n N.c,.slice O.a O.n O.c]:=(Blk.new 27 w _).kept (bNw (Below.refl _ _) _)
 have q2:Blk 30 ((w.alloc (.cells #[.int .i64 M.d,.int .i64 M.h,.int .i64 M.l,.int .i64 M.v,.int .i64 M.u,.int .i64 M.x,.int .i64 M.t,.int .i64 M.n,.slice E.a E.n E.c,.slice L.a L.n L.c,.slice N.a N.n N.c,.slice O.a O.n O.c] 27)).alloc (.cells #[.int .i64 M.r,.int .i64 M.s,.slice La.a La.n La.c] 30)) (w.heap.size+1) #[.int .i64 M.r,.int .i64 M.s,.slice La.a La.n La.c]:=Blk.new_at 30 (w.alloc _) _ _ (by simp)
 have kE:Calls Tryz.prog 31 #[.agg #[.int .i64 M.d,.int .i64 M.h,.int .i64 M.l,.int .i64 M.v,.int .i64 M.u,.int .i64 M.x,.int .i64 M.t,.int .i64 M.n,.slice E.a E.n E.c,.slice L.a L.n L.c,.slice N.a N.n N.c,.slice O.a O.n O.c],.agg #[.int .i64 M.r,.int .i64 M.s,.slice La.a La.n La.c]] ((w.alloc (.cells #[.int .i64 M.d,.int .i64 M.h,.int .i64 M.l,.int .i64 M.v,.int .i64 M.u,.int .i64 M.x,.int .i64 M.t,.int .i64 M.n,.slice E.a E.n E.c,.slice L.a L.n L.c,.slice N.a N.n N.c,.slice O.a O.n O.c] 27)).alloc (.cells #[.int .i64 M.r,.int .i64 M.s,.slice La.a La.n La.c] 30)) fun e w'=>e=.returned (.int .i64 (badE M))∧Below ((w.alloc (.cells #[.int .i64 M.d,.int .i64 M.h,.int .i64 M.l,.int .i64 M.v,.int .i64 M.u,.int .i64 M.x,.int .i64 M.t,.int .i64 M.n,.slice E.a E.n E.c,.slice L.a L.n L.c,.slice N.a N.n N.c,.slice O.a O.n O.c] 27)).alloc (.cells #[.int .i64 M.r,.int .i64 M.s,.slice La.a La.n La.c] 30)).heap.size ((w.alloc (.cells #[.int .i64 M.d,.int .i64 M.h,.int .i64 M.l,.int .i64 M.v,.int .i64 M.u,.int .i64 M.x,.int .i64 M.t,.int .i64 M.n,.slice E.a E.n E.c,.slice L.a L.n L.c,.slice N.a N.n N.c,.slice O.a O.n O.c] 27)).alloc (.cells #[.int .i64 M.r,.int .i64 M.s,.slice La.a La.n La.c] 30)) w':=by
  have:=rdcheck_call M E L N O Y U D La Ya ((w.alloc (.cells #[.int .i64 M.d,.int .i64 M.h,.int .i64 M.l,.int .i64 M.v,.int .i64 M.u,.int .i64 M.x,.int .i64 M.t,.int .i64 M.n,.slice E.a E.n E.c,.slice L.a L.n L.c,.slice N.a N.n N.c,.slice O.a O.n O.c] 27)).alloc (.cells #[.int .i64 M.r,.int .i64 M.s,.slice La.a La.n La.c] 30)) (hM.below hb0) (hA.below hb0) hml hal
  exact this
 obtain⟨c,ec⟩:∃ c,badE M=c:=⟨_,rfl⟩
 rw[ec] at kE hE ⊢
 have z:(c != 0)=true:=by simp[hE]
 clear ec hE
 go_enter Tryz.func13,Tryz.ntmps13
 go_wp2_with (go_at_call 31;refine kE.mono ?_;rintro e W1 ⟨rfl,h1⟩;have hb1:=bTn hb0 h1;have Q1:=hdn (q1.kept h1);have Q2:=hdn (q2.kept h1);obtain⟨a0,a1,a2,a3,a4,a5,a6,a7,a8,a9,a10,a11⟩:=(q1.kept h1).c12;clear h1 hb0 q1 q2 kE)
 refine bodyPost_ret (v:=.tuple #[.slice none 0 0,.slice none 0 0,.int .i64 c]) ?_ rfl ⟨rfl,bNw hb1 _⟩
 simp[results,Tryz.results13,go_sem]
theorem rdstep_place1 (M:Md)(E L N O:SL)(Y U D:Nat→Nat→SL)(La:SL)(Ya:Nat→Nat→SL)(hE:badE M=0)(w:World)(hM:ModAt w E L N O Y U D M.m)(hA:AdAt w La Ya M.a)(hml:M.m.ln≤9223372036854775807)(hal:M.a.ln≤9223372036854775807)(pa:Option Addr)(n pc:Nat)(p tok:Int)(h:p<0) :
  Calls Tryz.prog 13 #[.agg #[.int .i64 M.d,.int .i64 M.h,.int .i64 M.l,.int .i64 M.v,.int .i64 M.u,.int .i64 M.x,.int .i64 M.t,.int .i64 M.n,.slice E.a E.n E.c,.slice L.a L.n L.c,.slice N.a N.n N.c,.slice O.a O.n O.c],.agg #[.int .i64 M.r,.int .i64 M.s,.slice La.a La.n La.c],.slice pa n pc,.int .i64 p,.int .i64 tok] w fun e w'=>e=.returned (.tuple #[.slice none 0 0,.slice none 0 0,.int .i64 20])∧Below w.heap.size w w':=by
 have hb0:=bNw (bNw (Below.refl w.heap.size w) (.cells #[.int .i64 M.d,.int .i64 M.h,.int .i64 M.l,.int .i64 M.v,.int .i64 M.u,.int .i64 M.x,.int .i64 M.t,.int .i64 M.n,.slice E.a E.n E.c,.slice L.a L.n L.c,.slice N.a N.n N.c,.slice O.a O.n O.c] 27)) (.cells #[.int .i64 M.r,.int .i64 M.s,.slice La.a La.n La.c] 30)
 have q1:Blk 27 ((w.alloc (.cells #[.int .i64 M.d,.int .i64 M.h,.int .i64 M.l,.int .i64 M.v,.int .i64 M.u,.int .i64 M.x,.int .i64 M.t,.int .i64 M.n,.slice E.a E.n E.c,.slice L.a L.n L.c,.slice N.a N.n N.c,.slice O.a O.n O.c] 27)).alloc (.cells #[.int .i64 M.r,.int .i64 M.s,.slice La.a La.n La.c] 30)) w.heap.size #[.int .i64 M.d,.int .i64 M.h,.int .i64 M.l,.int .i64 M.v,.int .i64 M.u,.int .i64 M.x,.int .i64 M.t,.int .i64 M.n,.slice E.a E.n E.c,.slice L.a L.n L.c,.slice N.a N.n N.c,.slice O.a O.n O.c]:=(Blk.new 27 w _).kept (bNw (Below.refl _ _) _)
 have q2:Blk 30 ((w.alloc (.cells #[.int .i64 M.d,.int .i64 M.h,.int .i64 M.l,.int .i64 M.v,.int .i64 M.u,.int .i64 M.x,.int .i64 M.t,.int .i64 M.n,.slice E.a E.n E.c,.slice L.a L.n L.c,.slice N.a N.n N.c,.slice O.a O.n O.c] 27)).alloc (.cells #[.int .i64 M.r,.int .i64 M.s,.slice La.a La.n La.c] 30)) (w.heap.size+1) #[.int .i64 M.r,.int .i64 M.s,.slice La.a La.n La.c]:=Blk.new_at 30 (w.alloc _) _ _ (by simp)
 have kE:Calls Tryz.prog 31 #[.agg #[.int .i64 M.d,.int .i64 M.h,.int .i64 M.l,.int .i64 M.v,.int .i64 M.u,.int .i64 M.x,.int .i64 M.t,.int .i64 M.n,.slice E.a E.n E.c,.slice L.a L.n L.c,.slice N.a N.n N.c,.slice O.a O.n O.c],.agg #[.int .i64 M.r,.int .i64 M.s,.slice La.a La.n La.c]] ((w.alloc (.cells #[.int .i64 M.d,.int .i64 M.h,.int .i64 M.l,.int .i64 M.v,.int .i64 M.u,.int .i64 M.x,.int .i64 M.t,.int .i64 M.n,.slice E.a E.n E.c,.slice L.a L.n L.c,.slice N.a N.n N.c,.slice O.a O.n O.c] 27)).alloc (.cells #[.int .i64 M.r,.int .i64 M.s,.slice La.a La.n La.c] 30)) fun e w'=>e=.returned (.int .i64 (badE M))∧Below ((w.alloc (.cells #[.int .i64 M.d,.int .i64 M.h,.int .i64 M.l,.int .i64 M.v,.int .i64 M.u,.int .i64 M.x,.int .i64 M.t,.int .i64 M.n,.slice E.a E.n E.c,.slice L.a L.n L.c,.slice N.a N.n N.c,.slice O.a O.n O.c] 27)).alloc (.cells #[.int .i64 M.r,.int .i64 M.s,.slice La.a La.n La.c] 30)).heap.size ((w.alloc (.cells #[.int .i64 M.d,.int .i64 M.h,.int .i64 M.l,.int .i64 M.v,.int .i64 M.u,.int .i64 M.x,.int .i64 M.t,.int .i64 M.n,.slice E.a E.n E.c,.slice L.a L.n L.c,.slice N.a N.n N.c,.slice O.a O.n O.c] 27)).alloc (.cells #[.int .i64 M.r,.int .i64 M.s,.slice La.a La.n La.c] 30)) w':=by
  have:=rdcheck_call M E L N O Y U D La Ya ((w.alloc (.cells #[.int .i64 M.d,.int .i64 M.h,.int .i64 M.l,.int .i64 M.v,.int .i64 M.u,.int .i64 M.x,.int .i64 M.t,.int .i64 M.n,.slice E.a E.n E.c,.slice L.a L.n L.c,.slice N.a N.n N.c,.slice O.a O.n O.c] 27)).alloc (.cells #[.int .i64 M.r,.int .i64 M.s,.slice La.a La.n La.c] 30)) (hM.below hb0) (hA.below hb0) hml hal
  exact this
 rw[hE] at kE
 have d1':decide (p<0)=true:=decide_eq_true (by omega)
 clear hE
 go_enter Tryz.func13,Tryz.ntmps13
 go_wp2_with (go_at_call 31;refine kE.mono ?_;rintro e W1 ⟨rfl,h1⟩;have hb1:=bTn hb0 h1;have Q1:=hdn (q1.kept h1);have Q2:=hdn (q2.kept h1);obtain⟨a0,a1,a2,a3,a4,a5,a6,a7,a8,a9,a10,a11⟩:=(q1.kept h1).c12;clear h1 hb0 q1 q2 kE)
 refine bodyPost_ret (v:=.tuple #[.slice none 0 0,.slice none 0 0,.int .i64 20]) ?_ rfl ⟨rfl,bNw hb1 _⟩
 simp[results,Tryz.results13,go_sem]
theorem rdstep_place2 (M:Md)(E L N O:SL)(Y U D:Nat→Nat→SL)(La:SL)(Ya:Nat→Nat→SL)(hE:badE M=0)(w:World)(hM:ModAt w E L N O Y U D M.m)(hA:AdAt w La Ya M.a)(hml:M.m.ln≤9223372036854775807)(hal:M.a.ln≤9223372036854775807)(pa:Option Addr)(n pc:Nat)(p tok:Int)(h:24≤p) :
  Calls Tryz.prog 13 #[.agg #[.int .i64 M.d,.int .i64 M.h,.int .i64 M.l,.int .i64 M.v,.int .i64 M.u,.int .i64 M.x,.int .i64 M.t,.int .i64 M.n,.slice E.a E.n E.c,.slice L.a L.n L.c,.slice N.a N.n N.c,.slice O.a O.n O.c],.agg #[.int .i64 M.r,.int .i64 M.s,.slice La.a La.n La.c],.slice pa n pc,.int .i64 p,.int .i64 tok] w fun e w'=>e=.returned (.tuple #[.slice none 0 0,.slice none 0 0,.int .i64 20])∧Below w.heap.size w w':=by
 have hb0:=bNw (bNw (Below.refl w.heap.size w) (.cells #[.int .i64 M.d,.int .i64 M.h,.int .i64 M.l,.int .i64 M.v,.int .i64 M.u,.int .i64 M.x,.int .i64 M.t,.int .i64 M.n,.slice E.a E.n E.c,.slice L.a L.n L.c,.slice N.a N.n N.c,.slice O.a O.n O.c] 27)) (.cells #[.int .i64 M.r,.int .i64 M.s,.slice La.a La.n La.c] 30)
 have q1:Blk 27 ((w.alloc (.cells #[.int .i64 M.d,.int .i64 M.h,.int .i64 M.l,.int .i64 M.v,.int .i64 M.u,.int .i64 M.x,.int .i64 M.t,.int .i64 M.n,.slice E.a E.n E.c,.slice L.a L.n L.c,.slice N.a N.n N.c,.slice O.a O.n O.c] 27)).alloc (.cells #[.int .i64 M.r,.int .i64 M.s,.slice La.a La.n La.c] 30)) w.heap.size #[.int .i64 M.d,.int .i64 M.h,.int .i64 M.l,.int .i64 M.v,.int .i64 M.u,.int .i64 M.x,.int .i64 M.t,.int .i64 M.n,.slice E.a E.n E.c,.slice L.a L.n L.c,.slice N.a N.n N.c,.slice O.a O.n O.c]:=(Blk.new 27 w _).kept (bNw (Below.refl _ _) _)
 have q2:Blk 30 ((w.alloc (.cells #[.int .i64 M.d,.int .i64 M.h,.int .i64 M.l,.int .i64 M.v,.int .i64 M.u,.int .i64 M.x,.int .i64 M.t,.int .i64 M.n,.slice E.a E.n E.c,.slice L.a L.n L.c,.slice N.a N.n N.c,.slice O.a O.n O.c] 27)).alloc (.cells #[.int .i64 M.r,.int .i64 M.s,.slice La.a La.n La.c] 30)) (w.heap.size+1) #[.int .i64 M.r,.int .i64 M.s,.slice La.a La.n La.c]:=Blk.new_at 30 (w.alloc _) _ _ (by simp)
 have kE:Calls Tryz.prog 31 #[.agg #[.int .i64 M.d,.int .i64 M.h,.int .i64 M.l,.int .i64 M.v,.int .i64 M.u,.int .i64 M.x,.int .i64 M.t,.int .i64 M.n,.slice E.a E.n E.c,.slice L.a L.n L.c,.slice N.a N.n N.c,.slice O.a O.n O.c],.agg #[.int .i64 M.r,.int .i64 M.s,.slice La.a La.n La.c]] ((w.alloc (.cells #[.int .i64 M.d,.int .i64 M.h,.int .i64 M.l,.int .i64 M.v,.int .i64 M.u,.int .i64 M.x,.int .i64 M.t,.int .i64 M.n,.slice E.a E.n E.c,.slice L.a L.n L.c,.slice N.a N.n N.c,.slice O.a O.n O.c] 27)).alloc (.cells #[.int .i64 M.r,.int .i64 M.s,.slice La.a La.n La.c] 30)) fun e w'=>e=.returned (.int .i64 (badE M))∧Below ((w.alloc (.cells #[.int .i64 M.d,.int .i64 M.h,.int .i64 M.l,.int .i64 M.v,.int .i64 M.u,.int .i64 M.x,.int .i64 M.t,.int .i64 M.n,.slice E.a E.n E.c,.slice L.a L.n L.c,.slice N.a N.n N.c,.slice O.a O.n O.c] 27)).alloc (.cells #[.int .i64 M.r,.int .i64 M.s,.slice La.a La.n La.c] 30)).heap.size ((w.alloc (.cells #[.int .i64 M.d,.int .i64 M.h,.int .i64 M.l,.int .i64 M.v,.int .i64 M.u,.int .i64 M.x,.int .i64 M.t,.int .i64 M.n,.slice E.a E.n E.c,.slice L.a L.n L.c,.slice N.a N.n N.c,.slice O.a O.n O.c] 27)).alloc (.cells #[.int .i64 M.r,.int .i64 M.s,.slice La.a La.n La.c] 30)) w':=by
  have:=rdcheck_call M E L N O Y U D La Ya ((w.alloc (.cells #[.int .i64 M.d,.int .i64 M.h,.int .i64 M.l,.int .i64 M.v,.int .i64 M.u,.int .i64 M.x,.int .i64 M.t,.int .i64 M.n,.slice E.a E.n E.c,.slice L.a L.n L.c,.slice N.a N.n N.c,.slice O.a O.n O.c] 27)).alloc (.cells #[.int .i64 M.r,.int .i64 M.s,.slice La.a La.n La.c] 30)) (hM.below hb0) (hA.below hb0) hml hal
  exact this
 rw[hE] at kE
 have d1':decide (p<0)=false:=decide_eq_false (by omega)
 have d2':decide (24≤p)=true:=decide_eq_true (by omega)
 clear hE
 go_enter Tryz.func13,Tryz.ntmps13
 go_wp2_with (go_at_call 31;refine kE.mono ?_;rintro e W1 ⟨rfl,h1⟩;have hb1:=bTn hb0 h1;have Q1:=hdn (q1.kept h1);have Q2:=hdn (q2.kept h1);obtain⟨a0,a1,a2,a3,a4,a5,a6,a7,a8,a9,a10,a11⟩:=(q1.kept h1).c12;clear h1 hb0 q1 q2 kE)
 refine bodyPost_ret (v:=.tuple #[.slice none 0 0,.slice none 0 0,.int .i64 20]) ?_ rfl ⟨rfl,bNw hb1 _⟩
 simp[results,Tryz.results13,go_sem]
theorem rdstep_token1 (M:Md)(E L N O:SL)(Y U D:Nat→Nat→SL)(La:SL)(Ya:Nat→Nat→SL)(hE:badE M=0)(w:World)(hM:ModAt w E L N O Y U D M.m)(hA:AdAt w La Ya M.a)(hml:M.m.ln≤9223372036854775807)(hal:M.a.ln≤9223372036854775807)(pa:Option Addr)(n pc:Nat)(p tok:Int)(hp:0≤p∧p<24)(h:tok<0) :
  Calls Tryz.prog 13 #[.agg #[.int .i64 M.d,.int .i64 M.h,.int .i64 M.l,.int .i64 M.v,.int .i64 M.u,.int .i64 M.x,.int .i64 M.t,.int .i64 M.n,.slice E.a E.n E.c,.slice L.a L.n L.c,.slice N.a N.n N.c,.slice O.a O.n O.c],.agg #[.int .i64 M.r,.int .i64 M.s,.slice La.a La.n La.c],.slice pa n pc,.int .i64 p,.int .i64 tok] w fun e w'=>e=.returned (.tuple #[.slice none 0 0,.slice none 0 0,.int .i64 20])∧Below w.heap.size w w':=by
 have hb0:=bNw (bNw (Below.refl w.heap.size w) (.cells #[.int .i64 M.d,.int .i64 M.h,.int .i64 M.l,.int .i64 M.v,.int .i64 M.u,.int .i64 M.x,.int .i64 M.t,.int .i64 M.n,.slice E.a E.n E.c,.slice L.a L.n L.c,.slice N.a N.n N.c,.slice O.a O.n O.c] 27)) (.cells #[.int .i64 M.r,.int .i64 M.s,.slice La.a La.n La.c] 30)
 have q1:Blk 27 ((w.alloc (.cells #[.int .i64 M.d,.int .i64 M.h,.int .i64 M.l,.int .i64 M.v,.int .i64 M.u,.int .i64 M.x,.int .i64 M.t,.int .i64 M.n,.slice E.a E.n E.c,.slice L.a L.n L.c,.slice N.a N.n N.c,.slice O.a O.n O.c] 27)).alloc (.cells #[.int .i64 M.r,.int .i64 M.s,.slice La.a La.n La.c] 30)) w.heap.size #[.int .i64 M.d,.int .i64 M.h,.int .i64 M.l,.int .i64 M.v,.int .i64 M.u,.int .i64 M.x,.int .i64 M.t,.int .i64 M.n,.slice E.a E.n E.c,.slice L.a L.n L.c,.slice N.a N.n N.c,.slice O.a O.n O.c]:=(Blk.new 27 w _).kept (bNw (Below.refl _ _) _)
 have q2:Blk 30 ((w.alloc (.cells #[.int .i64 M.d,.int .i64 M.h,.int .i64 M.l,.int .i64 M.v,.int .i64 M.u,.int .i64 M.x,.int .i64 M.t,.int .i64 M.n,.slice E.a E.n E.c,.slice L.a L.n L.c,.slice N.a N.n N.c,.slice O.a O.n O.c] 27)).alloc (.cells #[.int .i64 M.r,.int .i64 M.s,.slice La.a La.n La.c] 30)) (w.heap.size+1) #[.int .i64 M.r,.int .i64 M.s,.slice La.a La.n La.c]:=Blk.new_at 30 (w.alloc _) _ _ (by simp)
 have kE:Calls Tryz.prog 31 #[.agg #[.int .i64 M.d,.int .i64 M.h,.int .i64 M.l,.int .i64 M.v,.int .i64 M.u,.int .i64 M.x,.int .i64 M.t,.int .i64 M.n,.slice E.a E.n E.c,.slice L.a L.n L.c,.slice N.a N.n N.c,.slice O.a O.n O.c],.agg #[.int .i64 M.r,.int .i64 M.s,.slice La.a La.n La.c]] ((w.alloc (.cells #[.int .i64 M.d,.int .i64 M.h,.int .i64 M.l,.int .i64 M.v,.int .i64 M.u,.int .i64 M.x,.int .i64 M.t,.int .i64 M.n,.slice E.a E.n E.c,.slice L.a L.n L.c,.slice N.a N.n N.c,.slice O.a O.n O.c] 27)).alloc (.cells #[.int .i64 M.r,.int .i64 M.s,.slice La.a La.n La.c] 30)) fun e w'=>e=.returned (.int .i64 (badE M))∧Below ((w.alloc (.cells #[.int .i64 M.d,.int .i64 M.h,.int .i64 M.l,.int .i64 M.v,.int .i64 M.u,.int .i64 M.x,.int .i64 M.t,.int .i64 M.n,.slice E.a E.n E.c,.slice L.a L.n L.c,.slice N.a N.n N.c,.slice O.a O.n O.c] 27)).alloc (.cells #[.int .i64 M.r,.int .i64 M.s,.slice La.a La.n La.c] 30)).heap.size ((w.alloc (.cells #[.int .i64 M.d,.int .i64 M.h,.int .i64 M.l,.int .i64 M.v,.int .i64 M.u,.int .i64 M.x,.int .i64 M.t,.int .i64 M.n,.slice E.a E.n E.c,.slice L.a L.n L.c,.slice N.a N.n N.c,.slice O.a O.n O.c] 27)).alloc (.cells #[.int .i64 M.r,.int .i64 M.s,.slice La.a La.n La.c] 30)) w':=by
  have:=rdcheck_call M E L N O Y U D La Ya ((w.alloc (.cells #[.int .i64 M.d,.int .i64 M.h,.int .i64 M.l,.int .i64 M.v,.int .i64 M.u,.int .i64 M.x,.int .i64 M.t,.int .i64 M.n,.slice E.a E.n E.c,.slice L.a L.n L.c,.slice N.a N.n N.c,.slice O.a O.n O.c] 27)).alloc (.cells #[.int .i64 M.r,.int .i64 M.s,.slice La.a La.n La.c] 30)) (hM.below hb0) (hA.below hb0) hml hal
  exact this
 rw[hE] at kE
 have d1':decide (p<0)=false:=decide_eq_false (by omega)
 have d2':decide (24≤p)=false:=decide_eq_false (by omega)
 have d3':decide (tok<0)=true:=decide_eq_true (by omega)
 clear hE
 go_enter Tryz.func13,Tryz.ntmps13
 go_wp2_with (go_at_call 31;refine kE.mono ?_;rintro e W1 ⟨rfl,h1⟩;have hb1:=bTn hb0 h1;have Q1:=hdn (q1.kept h1);have Q2:=hdn (q2.kept h1);obtain⟨a0,a1,a2,a3,a4,a5,a6,a7,a8,a9,a10,a11⟩:=(q1.kept h1).c12;clear h1 hb0 q1 q2 kE)
 refine bodyPost_ret (v:=.tuple #[.slice none 0 0,.slice none 0 0,.int .i64 20]) ?_ rfl ⟨rfl,bNw hb1 _⟩
 simp[results,Tryz.results13,go_sem]
theorem rdstep_token2 (M:Md)(E L N O:SL)(Y U D:Nat→Nat→SL)(La:SL)(Ya:Nat→Nat→SL)(hE:badE M=0)(w:World)(hM:ModAt w E L N O Y U D M.m)(hA:AdAt w La Ya M.a)(hml:M.m.ln≤9223372036854775807)(hal:M.a.ln≤9223372036854775807)(pa:Option Addr)(n pc:Nat)(p tok:Int)(hp:0≤p∧p<24)(h:0≤tok∧M.v≤tok) :
  Calls Tryz.prog 13 #[.agg #[.int .i64 M.d,.int .i64 M.h,.int .i64 M.l,.int .i64 M.v,.int .i64 M.u,.int .i64 M.x,.int .i64 M.t,.int .i64 M.n,.slice E.a E.n E.c,.slice L.a L.n L.c,.slice N.a N.n N.c,.slice O.a O.n O.c],.agg #[.int .i64 M.r,.int .i64 M.s,.slice La.a La.n La.c],.slice pa n pc,.int .i64 p,.int .i64 tok] w fun e w'=>e=.returned (.tuple #[.slice none 0 0,.slice none 0 0,.int .i64 20])∧Below w.heap.size w w':=by
 have hb0:=bNw (bNw (Below.refl w.heap.size w) (.cells #[.int .i64 M.d,.int .i64 M.h,.int .i64 M.l,.int .i64 M.v,.int .i64 M.u,.int .i64 M.x,.int .i64 M.t,.int .i64 M.n,.slice E.a E.n E.c,.slice L.a L.n L.c,.slice N.a N.n N.c,.slice O.a O.n O.c] 27)) (.cells #[.int .i64 M.r,.int .i64 M.s,.slice La.a La.n La.c] 30)
 have q1:Blk 27 ((w.alloc (.cells #[.int .i64 M.d,.int .i64 M.h,.int .i64 M.l,.int .i64 M.v,.int .i64 M.u,.int .i64 M.x,.int .i64 M.t,.int .i64 M.n,.slice E.a E.n E.c,.slice L.a L.n L.c,.slice N.a N.n N.c,.slice O.a O.n O.c] 27)).alloc (.cells #[.int .i64 M.r,.int .i64 M.s,.slice La.a La.n La.c] 30)) w.heap.size #[.int .i64 M.d,.int .i64 M.h,.int .i64 M.l,.int .i64 M.v,.int .i64 M.u,.int .i64 M.x,.int .i64 M.t,.int .i64 M.n,.slice E.a E.n E.c,.slice L.a L.n L.c,.slice N.a N.n N.c,.slice O.a O.n O.c]:=(Blk.new 27 w _).kept (bNw (Below.refl _ _) _)
 have q2:Blk 30 ((w.alloc (.cells #[.int .i64 M.d,.int .i64 M.h,.int .i64 M.l,.int .i64 M.v,.int .i64 M.u,.int .i64 M.x,.int .i64 M.t,.int .i64 M.n,.slice E.a E.n E.c,.slice L.a L.n L.c,.slice N.a N.n N.c,.slice O.a O.n O.c] 27)).alloc (.cells #[.int .i64 M.r,.int .i64 M.s,.slice La.a La.n La.c] 30)) (w.heap.size+1) #[.int .i64 M.r,.int .i64 M.s,.slice La.a La.n La.c]:=Blk.new_at 30 (w.alloc _) _ _ (by simp)
 have kE:Calls Tryz.prog 31 #[.agg #[.int .i64 M.d,.int .i64 M.h,.int .i64 M.l,.int .i64 M.v,.int .i64 M.u,.int .i64 M.x,.int .i64 M.t,.int .i64 M.n,.slice E.a E.n E.c,.slice L.a L.n L.c,.slice N.a N.n N.c,.slice O.a O.n O.c],.agg #[.int .i64 M.r,.int .i64 M.s,.slice La.a La.n La.c]] ((w.alloc (.cells #[.int .i64 M.d,.int .i64 M.h,.int .i64 M.l,.int .i64 M.v,.int .i64 M.u,.int .i64 M.x,.int .i64 M.t,.int .i64 M.n,.slice E.a E.n E.c,.slice L.a L.n L.c,.slice N.a N.n N.c,.slice O.a O.n O.c] 27)).alloc (.cells #[.int .i64 M.r,.int .i64 M.s,.slice La.a La.n La.c] 30)) fun e w'=>e=.returned (.int .i64 (badE M))∧Below ((w.alloc (.cells #[.int .i64 M.d,.int .i64 M.h,.int .i64 M.l,.int .i64 M.v,.int .i64 M.u,.int .i64 M.x,.int .i64 M.t,.int .i64 M.n,.slice E.a E.n E.c,.slice L.a L.n L.c,.slice N.a N.n N.c,.slice O.a O.n O.c] 27)).alloc (.cells #[.int .i64 M.r,.int .i64 M.s,.slice La.a La.n La.c] 30)).heap.size ((w.alloc (.cells #[.int .i64 M.d,.int .i64 M.h,.int .i64 M.l,.int .i64 M.v,.int .i64 M.u,.int .i64 M.x,.int .i64 M.t,.int .i64 M.n,.slice E.a E.n E.c,.slice L.a L.n L.c,.slice N.a N.n N.c,.slice O.a O.n O.c] 27)).alloc (.cells #[.int .i64 M.r,.int .i64 M.s,.slice La.a La.n La.c] 30)) w':=by
  have:=rdcheck_call M E L N O Y U D La Ya ((w.alloc (.cells #[.int .i64 M.d,.int .i64 M.h,.int .i64 M.l,.int .i64 M.v,.int .i64 M.u,.int .i64 M.x,.int .i64 M.t,.int .i64 M.n,.slice E.a E.n E.c,.slice L.a L.n L.c,.slice N.a N.n N.c,.slice O.a O.n O.c] 27)).alloc (.cells #[.int .i64 M.r,.int .i64 M.s,.slice La.a La.n La.c] 30)) (hM.below hb0) (hA.below hb0) hml hal
  exact this
 rw[hE] at kE
 have d1':decide (p<0)=false:=decide_eq_false (by omega)
 have d2':decide (24≤p)=false:=decide_eq_false (by omega)
 have d3':decide (tok<0)=false:=decide_eq_false (by omega)
 have d4':decide (M.v≤tok)=true:=decide_eq_true (by omega)
 clear hE
 go_enter Tryz.func13,Tryz.ntmps13
 go_wp2_with (go_at_call 31;refine kE.mono ?_;rintro e W1 ⟨rfl,h1⟩;have hb1:=bTn hb0 h1;have Q1:=hdn (q1.kept h1);have Q2:=hdn (q2.kept h1);obtain⟨a0,a1,a2,a3,a4,a5,a6,a7,a8,a9,a10,a11⟩:=(q1.kept h1).c12;clear h1 hb0 q1 q2 kE)
 refine bodyPost_ret (v:=.tuple #[.slice none 0 0,.slice none 0 0,.int .i64 20]) ?_ rfl ⟨rfl,bNw hb1 _⟩
 simp[results,Tryz.results13,go_sem]
theorem rdstep_range (M:Md)(E L N O:SL)(Y U D:Nat→Nat→SL)(La:SL)(Ya:Nat→Nat→SL)(hE:badE M=0)(w:World)(hM:ModAt w E L N O Y U D M.m)(hA:AdAt w La Ya M.a)(hml:M.m.ln≤9223372036854775807)(hal:M.a.ln≤9223372036854775807)(pa:Option Addr)(n pc:Nat)(p tok:Int)(h:¬(0≤p∧p<24)∨¬(0≤tok∧tok<M.v)) :
  Calls Tryz.prog 13 #[.agg #[.int .i64 M.d,.int .i64 M.h,.int .i64 M.l,.int .i64 M.v,.int .i64 M.u,.int .i64 M.x,.int .i64 M.t,.int .i64 M.n,.slice E.a E.n E.c,.slice L.a L.n L.c,.slice N.a N.n N.c,.slice O.a O.n O.c],.agg #[.int .i64 M.r,.int .i64 M.s,.slice La.a La.n La.c],.slice pa n pc,.int .i64 p,.int .i64 tok] w fun e w'=>e=.returned (.tuple #[.slice none 0 0,.slice none 0 0,.int .i64 20])∧Below w.heap.size w w':=by
 by_cases h1:p<0
 ·exact rdstep_place1 M E L N O Y U D La Ya hE w hM hA hml hal pa n pc p tok h1
 by_cases h2:24≤p
 ·exact rdstep_place2 M E L N O Y U D La Ya hE w hM hA hml hal pa n pc p tok h2
 by_cases h3:tok<0
 ·exact rdstep_token1 M E L N O Y U D La Ya hE w hM hA hml hal pa n pc p tok ⟨by omega,by omega⟩ h3
 ·exact rdstep_token2 M E L N O Y U D La Ya hE w hM hA hml hal pa n pc p tok ⟨by omega,by omega⟩ ⟨by omega,by omega⟩
theorem rdstep_shape (M:Md)(E L N O:SL)(Y U D:Nat→Nat→SL)(La:SL)(Ya:Nat→Nat→SL)(F:MdFit M)(hE:badE M=0)(w:World)(hM:ModAt w E L N O Y U D M.m)(hA:AdAt w La Ya M.a)(hml:M.m.ln≤9223372036854775807)(hal:M.a.ln≤9223372036854775807)(pa:Option Addr)(n pc:Nat)(A:Nat→Option Addr)(C:Nat→Nat)(P:Nat→List Int)(hP:Grid w pa n A C P)(hC:∀ r,r<n→(P r).length≤C r)(p:Int)(hp:0≤p∧p<24)(tok:Int)(ht:0≤tok∧tok<M.v)(hbad:(n:Int)=p-seeZ p M.n→∃ r,r<n∧¬((P r).length:Int)=widthZ M.d M.h M.l M.v M.u M.x M.t M.n) :
  Calls Tryz.prog 13 #[.agg #[.int .i64 M.d,.int .i64 M.h,.int .i64 M.l,.int .i64 M.v,.int .i64 M.u,.int .i64 M.x,.int .i64 M.t,.int .i64 M.n,.slice E.a E.n E.c,.slice L.a L.n L.c,.slice N.a N.n N.c,.slice O.a O.n O.c],.agg #[.int .i64 M.r,.int .i64 M.s,.slice La.a La.n La.c],.slice pa n pc,.int .i64 p,.int .i64 tok] w fun e w'=>e=.returned (.tuple #[.slice none 0 0,.slice none 0 0,.int .i64 21])∧Below w.heap.size w w':=by
 have sb:=see_bounds hp ⟨F.n0,F.n1⟩
 have hmx:=hP.max
 have wp:(Lit.int .i64 p).wf=true:=wf_small (by omega) (by omega)
 have wn:(Lit.int .i64 M.n).wf=true:=wf_small (by have:=F.n0;omega) (by have:=F.n1;omega)
 have d1':decide (p<0)=false:=decide_eq_false (by omega)
 have d2':decide (24≤p)=false:=decide_eq_false (by omega)
 have d3':decide (tok<0)=false:=decide_eq_false (by omega)
 have d4':decide (M.v≤tok)=false:=decide_eq_false (by omega)
 have hb0:=bNw (bNw (Below.refl w.heap.size w) (.cells #[.int .i64 M.d,.int .i64 M.h,.int .i64 M.l,.int .i64 M.v,.int .i64 M.u,.int .i64 M.x,.int .i64 M.t,.int .i64 M.n,.slice E.a E.n E.c,.slice L.a L.n L.c,.slice N.a N.n N.c,.slice O.a O.n O.c] 27)) (.cells #[.int .i64 M.r,.int .i64 M.s,.slice La.a La.n La.c] 30)
 have q1:Blk 27 ((w.alloc (.cells #[.int .i64 M.d,.int .i64 M.h,.int .i64 M.l,.int .i64 M.v,.int .i64 M.u,.int .i64 M.x,.int .i64 M.t,.int .i64 M.n,.slice E.a E.n E.c,.slice L.a L.n L.c,.slice N.a N.n N.c,.slice O.a O.n O.c] 27)).alloc (.cells #[.int .i64 M.r,.int .i64 M.s,.slice La.a La.n La.c] 30)) w.heap.size #[.int .i64 M.d,.int .i64 M.h,.int .i64 M.l,.int .i64 M.v,.int .i64 M.u,.int .i64 M.x,.int .i64 M.t,.int .i64 M.n,.slice E.a E.n E.c,.slice L.a L.n L.c,.slice N.a N.n N.c,.slice O.a O.n O.c]:=(Blk.new 27 w _).kept (bNw (Below.refl _ _) _)
 have q2:Blk 30 ((w.alloc (.cells #[.int .i64 M.d,.int .i64 M.h,.int .i64 M.l,.int .i64 M.v,.int .i64 M.u,.int .i64 M.x,.int .i64 M.t,.int .i64 M.n,.slice E.a E.n E.c,.slice L.a L.n L.c,.slice N.a N.n N.c,.slice O.a O.n O.c] 27)).alloc (.cells #[.int .i64 M.r,.int .i64 M.s,.slice La.a La.n La.c] 30)) (w.heap.size+1) #[.int .i64 M.r,.int .i64 M.s,.slice La.a La.n La.c]:=Blk.new_at 30 (w.alloc _) _ _ (by simp)
 have kE:Calls Tryz.prog 31 #[.agg #[.int .i64 M.d,.int .i64 M.h,.int .i64 M.l,.int .i64 M.v,.int .i64 M.u,.int .i64 M.x,.int .i64 M.t,.int .i64 M.n,.slice E.a E.n E.c,.slice L.a L.n L.c,.slice N.a N.n N.c,.slice O.a O.n O.c],.agg #[.int .i64 M.r,.int .i64 M.s,.slice La.a La.n La.c]] ((w.alloc (.cells #[.int .i64 M.d,.int .i64 M.h,.int .i64 M.l,.int .i64 M.v,.int .i64 M.u,.int .i64 M.x,.int .i64 M.t,.int .i64 M.n,.slice E.a E.n E.c,.slice L.a L.n L.c,.slice N.a N.n N.c,.slice O.a O.n O.c] 27)).alloc (.cells #[.int .i64 M.r,.int .i64 M.s,.slice La.a La.n La.c] 30)) fun e w'=>e=.returned (.int .i64 (badE M))∧Below ((w.alloc (.cells #[.int .i64 M.d,.int .i64 M.h,.int .i64 M.l,.int .i64 M.v,.int .i64 M.u,.int .i64 M.x,.int .i64 M.t,.int .i64 M.n,.slice E.a E.n E.c,.slice L.a L.n L.c,.slice N.a N.n N.c,.slice O.a O.n O.c] 27)).alloc (.cells #[.int .i64 M.r,.int .i64 M.s,.slice La.a La.n La.c] 30)).heap.size ((w.alloc (.cells #[.int .i64 M.d,.int .i64 M.h,.int .i64 M.l,.int .i64 M.v,.int .i64 M.u,.int .i64 M.x,.int .i64 M.t,.int .i64 M.n,.slice E.a E.n E.c,.slice L.a L.n L.c,.slice N.a N.n N.c,.slice O.a O.n O.c] 27)).alloc (.cells #[.int .i64 M.r,.int .i64 M.s,.slice La.a La.n La.c] 30)) w':=by
  have:=rdcheck_call M E L N O Y U D La Ya ((w.alloc (.cells #[.int .i64 M.d,.int .i64 M.h,.int .i64 M.l,.int .i64 M.v,.int .i64 M.u,.int .i64 M.x,.int .i64 M.t,.int .i64 M.n,.slice E.a E.n E.c,.slice L.a L.n L.c,.slice N.a N.n N.c,.slice O.a O.n O.c] 27)).alloc (.cells #[.int .i64 M.r,.int .i64 M.s,.slice La.a La.n La.c] 30)) (hM.below hb0) (hA.below hb0) hml hal
  exact this
 rw[hE] at kE
 obtain⟨S,eS⟩:∃ S,seeZ p M.n=S:=⟨_,rfl⟩
 obtain⟨df,edf⟩:∃ df,p-S=df:=⟨_,rfl⟩
 have kv:=fun W=>refVisible_call p M.n wp wn W
 rw[eS] at sb hbad kv
 rw[edf] at hbad
 have hwr:IntKind.i64.wrap (p-S)=df:=by rw[IntKind.wrap_i64];omega
 obtain⟨B0,eB0⟩:∃ B0,((n:Int)==df)=B0:=⟨_,rfl⟩
 have hbB:B0=true→∃ r,r<n∧¬((P r).length:Int)=widthZ M.d M.h M.l M.v M.u M.x M.t M.n:=fun h=>hbad (by rw[←eB0] at h;simpa using h)
 clear hE eS hbad
 go_enter Tryz.func13,Tryz.ntmps13
 go_wp2_with (first
  | (go_at_call 31;refine kE.mono ?_;rintro e W1 ⟨rfl,h1⟩;have hb1:=bTn hb0 h1;have Q1:=hdn (q1.kept h1);have Q2:=hdn (q2.kept h1);obtain⟨a0,a1,a2,a3,a4,a5,a6,a7,a8,a9,a10,a11⟩:=(q1.kept h1).c12;clear h1 hb0 q1 q2 kE)
  | (go_at_call 32;refine (kv _).mono ?_;rintro e w' ⟨rfl,hq⟩;obtain rfl:=hq.symm;clear hq))
 clear kv
 go_loopw [15,16] (fun vb i wr=>∃ k:Nat,k≤n∧i=.int .i64 k∧(∃ B,vb=.bool B∧(B=true→B0=true∧∀ r,r<k→((P r).length:Int)=widthZ M.d M.h M.l M.v M.u M.x M.t M.n))∧Below w.heap.size w wr∧Blk 27 wr w.heap.size #[.int .i64 M.d,.int .i64 M.h,.int .i64 M.l,.int .i64 M.v,.int .i64 M.u,.int .i64 M.x,.int .i64 M.t,.int .i64 M.n,.slice E.a E.n E.c,.slice L.a L.n L.c,.slice N.a N.n N.c,.slice O.a O.n O.c]∧Blk 30 wr (w.heap.size+1) #[.int .i64 M.r,.int .i64 M.s,.slice La.a La.n La.c]∧Blk 23 wr W1.heap.size #[.int .i64 M.d,.int .i64 M.h,.int .i64 M.l,.int .i64 M.v,.int .i64 M.u,.int .i64 M.x,.int .i64 M.t,.int .i64 M.n]) (fun _ i _=>n-(intOf i).toNat)
 case atStart=>exact⟨0,Nat.zero_le _,rfl,⟨_,rfl,fun h=>⟨h,fun r hr=>by omega⟩⟩,bNw hb1 _,Q1.out.kept (bNw (Below.refl _ _) _),Q2.out.kept (bNw (Below.refl _ _) _),Blk.new 23 W1 _⟩
 case round =>
  clear hb1 Q1 Q2 a0 a1 a2 a3 a4 a5 a6 a7 a8 a9 a10 a11 d1' d2' d3' d4' edf hwr eB0
  obtain⟨k,hk,rfl,⟨B,rfl,hB⟩,hbr,qm,qa_,qc⟩:=hrel
  have R0:=hdn (⟨hbr,qm,qa_,qc⟩:Below w.heap.size w wr∧Blk 27 wr w.heap.size #[.int .i64 M.d,.int .i64 M.h,.int .i64 M.l,.int .i64 M.v,.int .i64 M.u,.int .i64 M.x,.int .i64 M.t,.int .i64 M.n,.slice E.a E.n E.c,.slice L.a L.n L.c,.slice N.a N.n N.c,.slice O.a O.n O.c]∧Blk 30 wr (w.heap.size+1) #[.int .i64 M.r,.int .i64 M.s,.slice La.a La.n La.c]∧Blk 23 wr W1.heap.size #[.int .i64 M.d,.int .i64 M.h,.int .i64 M.l,.int .i64 M.v,.int .i64 M.u,.int .i64 M.x,.int .i64 M.t,.int .i64 M.n])
  clear hbr qm qa_ qc
  cases B with
  | false =>
   have hB0:=hdn R0.out.1
   by_cases hlt:k<n
   ·have hd:decide ((k:Int)<(n:Int))=true:=decide_eq_true (by omega)
    go_wp2
    refine bodyPost_ret (v:=.tuple #[.slice none 0 0,.slice none 0 0,.int .i64 21]) ?_ rfl ⟨rfl,hB0.out⟩
    simp[results,Tryz.results13,go_sem]
   ·have hd:decide ((k:Int)<(n:Int))=false:=decide_eq_false (by omega)
    go_wp2
    refine bodyPost_ret (v:=.tuple #[.slice none 0 0,.slice none 0 0,.int .i64 21]) ?_ rfl ⟨rfl,hB0.out⟩
    simp[results,Tryz.results13,go_sem]
  | true =>
   obtain⟨hb0t,hall⟩:=hB rfl
   obtain⟨r,hr,hne⟩:=hbB hb0t
   by_cases hlt:k<n
   ·obtain⟨x,rfl⟩:=hP.some_ (by omega)
    obtain⟨BB,heq⟩:∃ BB,(((P k).length:Int)==widthZ M.d M.h M.l M.v M.u M.x M.t M.n)=BB:=⟨_,rfl⟩
    have Hall:Hid (BB=true→B0=true∧∀ r,r<k+1→((P r).length:Int)=widthZ M.d M.h M.l M.v M.u M.x M.t M.n):=fun h=>⟨hb0t,fun r hr=>by
     rcases Nat.lt_succ_iff_lt_or_eq.1 hr with h1|h1
     ·exact hall r h1
     ·rw[h1];rw[h] at heq;simpa using heq⟩
    clear hB hb0t hall hne hbB
    go_wp2
    refine sp8_region M W1.heap.size n pc k (P k).length (C k) x (A k) (widthZ M.d M.h M.l M.v M.u M.x M.t M.n) BB (fun W=>Below wr.heap.size wr W) (by kernel_rfl) rfl ⟨_,rfl,rfl,rfl,rfl,by kernel_rfl⟩ ⟨_,rfl,rfl,rfl,rfl,by kernel_rfl⟩ ⟨_,rfl,rfl,rfl,rfl,by kernel_rfl⟩ ⟨_,rfl,rfl,rfl,rfl,by kernel_rfl⟩ ⟨_,rfl,rfl,rfl,rfl,by kernel_rfl⟩ ⟨_,rfl,rfl,rfl,rfl,by kernel_rfl⟩ ⟨_,rfl,rfl,rfl,rfl,by kernel_rfl⟩ ⟨_,rfl,rfl,rfl,rfl,by kernel_rfl⟩ ⟨_,rfl,rfl,rfl,rfl,by kernel_rfl⟩ (Below.refl _ _).drew (run_index31 x n pc k hlt) (fun W hb=>run_load34 (((hP.below R0.out.1).below hb).cell x rfl k hlt)) (fun W hb=>run_load23 (R0.out.2.2.2.kept hb)) (fun W hb=>(rd_width M.d M.h M.l M.v M.u M.x M.t M.n W).mono fun e w' ⟨q1,q2⟩=>⟨q1,q2,bTn hb q2⟩) (fun W=>by rw[run_eql,heq]) rfl rfl rfl (Nat.le_of_ble_eq_true rfl) ?_
    intro a W9 hs hd hkp hS9 hval
    have e15:a.tmps.getD 15 undef=.bool BB:=hval 8 15 (by decide) rfl
    have ep:=fPu [70,71,72,73,74,75,76,77,15] hs hd (fun s h=>hkp s (fun i hi e=>h (by
     rcases (show i=0∨i=1∨i=2∨i=3∨i=4∨i=5∨i=6∨i=7∨i=8 by omega) with rfl|rfl|rfl|rfl|rfl|rfl|rfl|rfl|rfl<;>(simp only[sp8D,Option.some.injEq] at e;subst e;simp))))
    simp only[List.foldl] at ep
    rw[e15] at ep
    have H9:=hdn hS9
    clear hs hd hkp hval hS9 e15
    generalize a.tmps.getD 70 undef=g70,a.tmps.getD 71 undef=g71,a.tmps.getD 72 undef=g72,a.tmps.getD 73 undef=g73,a.tmps.getD 74 undef=g74,a.tmps.getD 75 undef=g75,a.tmps.getD 76 undef=g76,a.tmps.getD 77 undef=g77 at ep
    simp only[Act.put,List.setIfInBounds_toArray,List.set_cons_succ,List.set_cons_zero] at ep
    subst ep
    have R:=hdn (⟨bTn R0.out.1 H9.out,R0.out.2.1.kept H9.out,R0.out.2.2.1.kept H9.out,R0.out.2.2.2.kept H9.out⟩:Below w.heap.size w W9∧Blk 27 W9 w.heap.size #[.int .i64 M.d,.int .i64 M.h,.int .i64 M.l,.int .i64 M.v,.int .i64 M.u,.int .i64 M.x,.int .i64 M.t,.int .i64 M.n,.slice E.a E.n E.c,.slice L.a L.n L.c,.slice N.a N.n N.c,.slice O.a O.n O.c]∧Blk 30 W9 (w.heap.size+1) #[.int .i64 M.r,.int .i64 M.s,.slice La.a La.n La.c]∧Blk 23 W9 W1.heap.size #[.int .i64 M.d,.int .i64 M.h,.int .i64 M.l,.int .i64 M.v,.int .i64 M.u,.int .i64 M.x,.int .i64 M.t,.int .i64 M.n])
    clear H9 heq R0
    go_wp2
    go_roundw
    case rel=>exact⟨k+1,by omega,by go_num,⟨_,rfl,Hall.out⟩,R.out⟩
    case measure=>simp[intOf];omega
   ·exact absurd (hall r (by omega)) hne
theorem rdstep_call (M:Md)(E L N O:SL)(Y U D:Nat→Nat→SL)(La:SL)(Ya:Nat→Nat→SL)(F:MdFit M)(hE:badE M=0)(p:Int)(hp:0≤p∧p<24)(tok:Nat)(ht:(tok:Int)<M.v)(w:World)(hM:ModAt w E L N O Y U D M.m)(hA:AdAt w La Ya M.a)(hml:M.m.ln≤9223372036854775807)(hal:M.a.ln≤9223372036854775807)
  (pa:Option Addr) (n pc:Nat) (A:Nat→Option Addr) (C:Nat→Nat) (P:Nat→List Int) (hP:Grid w pa n A C P) (hC:∀ r,r<n→(P r).length≤C r) (hcn:(n:Int)=p-seeZ p M.n) (hW:∀ r,r<n→(P r).length=2*M.m.ln*M.D) :
  Calls Tryz.prog 13 #[.agg #[.int .i64 M.d,.int .i64 M.h,.int .i64 M.l,.int .i64 M.v,.int .i64 M.u,.int .i64 M.x,.int .i64 M.t,.int .i64 M.n,.slice E.a E.n E.c,.slice L.a L.n L.c,.slice N.a N.n N.c,.slice O.a O.n O.c],.agg #[.int .i64 M.r,.int .i64 M.s,.slice La.a La.n La.c],.slice pa n pc,.int .i64 p,.int .i64 tok] w fun e w'=>(∃ a c b k,e=.returned (.tuple #[.slice a (2*M.m.ln*M.D) c,.slice b M.D k,.int .i64 0])∧Reads .i64 w' a (2*M.m.ln*M.D) (rowL M p P n tok)∧2*M.m.ln*M.D≤c∧Reads .i64 w' b M.D (outL M p P n tok)∧(∀ x,a=some x→w.heap.size≤x.block)∧∀ x,b=some x→w.heap.size≤x.block)∧Below w.heap.size w w':=by
 have K:=badE_ok hE
 obtain⟨x0,hx0⟩:=hM.some_ (by have:=F.l0;omega)
 have:=rdstep_walk M E L N O Y U D La Ya x0 F hE K.ok (fun h=>K.adapter h) p hp tok ht w hM hA hml hal hx0 pa n pc A C P hP hC hcn hW
 rw[hx0,hM.len]
 exact this
theorem step_both (M:Md)(hml:M.m.ln≤9223372036854775807)(hal:M.a.ln≤9223372036854775807)(n:Nat)(P:Nat→List Int)(p tok:Int):∃ (ee:Int) (rs os:List Int),(∀ (E L N O:SL) (Y U D:Nat→Nat→SL) (La:SL) (Ya:Nat→Nat→SL) (W:World) (pa:Option Addr) (pc:Nat) (A:Nat→Option Addr) (C:Nat→Nat),ModAt W E L N O Y U D M.m→AdAt W La Ya M.a→Grid W pa n A C P→(∀ r,r<n→(P r).length≤C r)→Calls Tryz.prog 11 #[.agg #[.int .i64 M.d,.int .i64 M.h,.int .i64 M.l,.int .i64 M.v,.int .i64 M.u,.int .i64 M.x,.int .i64 M.t,.int .i64 M.n,.slice E.a E.n E.c,.slice L.a L.n L.c,.slice N.a N.n N.c,.slice O.a O.n O.c],.agg #[.int .i64 M.r,.int .i64 M.s,.slice La.a La.n La.c],.slice pa n pc,.int .i64 p,.int .i64 tok] W fun e w'=>(∃ ra rc oa oc,e=.returned (.tuple #[.slice ra rs.length rc,.slice oa os.length oc,.int .i64 ee])∧Reads .i64 w' ra rs.length rs∧Reads .i64 w' oa os.length os)∧Below W.heap.size W w')∧(∀ (E L N O:SL) (Y U D:Nat→Nat→SL) (La:SL) (Ya:Nat→Nat→SL) (W:World) (pa:Option Addr) (pc:Nat) (A:Nat→Option Addr) (C:Nat→Nat),ModAt W E L N O Y U D M.m→AdAt W La Ya M.a→Grid W pa n A C P→(∀ r,r<n→(P r).length≤C r)→Calls Tryz.prog 13 #[.agg #[.int .i64 M.d,.int .i64 M.h,.int .i64 M.l,.int .i64 M.v,.int .i64 M.u,.int .i64 M.x,.int .i64 M.t,.int .i64 M.n,.slice E.a E.n E.c,.slice L.a L.n L.c,.slice N.a N.n N.c,.slice O.a O.n O.c],.agg #[.int .i64 M.r,.int .i64 M.s,.slice La.a La.n La.c],.slice pa n pc,.int .i64 p,.int .i64 tok] W fun e w'=>(∃ ra rc oa oc,e=.returned (.tuple #[.slice ra rs.length rc,.slice oa os.length oc,.int .i64 ee])∧Reads .i64 w' ra rs.length rs∧Reads .i64 w' oa os.length os)∧Below W.heap.size W w'):=by
 have none2:∀ {e:Ending}{W w':World}{z:Int},(e=.returned (.tuple #[.slice none 0 0,.slice none 0 0,.int .i64 z])∧Below W.heap.size W w')→(∃ ra rc oa oc,e=.returned (.tuple #[.slice ra ([]:List Int).length rc,.slice oa ([]:List Int).length oc,.int .i64 z])∧Reads .i64 w' ra ([]:List Int).length []∧Reads .i64 w' oa ([]:List Int).length [])∧Below W.heap.size W w':=fun h=>⟨⟨none,0,none,0,h.1,Reads.nil _ _,Reads.nil _ _⟩,h.2⟩
 by_cases hE:badE M=0
 ·have ok:=badE_ok hE
  have F:=ok.fit
  by_cases hr:¬(0≤p∧p<24)∨¬(0≤tok∧tok<M.v)
  ·refine⟨20,[],[],?_,?_⟩
   ·intro E L N O Y U D La Ya W pa pc A C hM hA hP hC
    exact (Step_inner M E L N O Y U D La Ya W hM hA pa n pc p tok (fun _ _ _ _ _ _ _=>True) 20 hE (fun W' _=>step_range M E L N O La W' pa n pc p tok hr)).mono fun e w' h=>none2 h
   ·intro E L N O Y U D La Ya W pa pc A C hM hA hP hC
    exact (rdstep_range M E L N O Y U D La Ya hE W hM hA hml hal pa n pc p tok hr).mono fun e w' h=>none2 h
  ·have hp:0≤p∧p<24:=Classical.byContradiction fun h=>hr (.inl h)
   have ht:0≤tok∧tok<M.v:=Classical.byContradiction fun h=>hr (.inr h)
   by_cases hb:(n:Int)=p-seeZ p M.n∧∀ r,r<n→((P r).length:Int)=widthZ M.d M.h M.l M.v M.u M.x M.t M.n
   ·obtain⟨hcn,hW'⟩:=hb
    have hW:∀ r,r<n→(P r).length=2*M.m.ln*M.D:=fun r hr=>by
     have:=hW' r hr
     rw[wOf F ok.ok] at this
     exact Int.ofNat.inj this
    obtain⟨tk,rfl⟩:∃ tk:Nat,tok=tk:=⟨tok.toNat,by omega⟩
    have l1:(rowL M p P n tk).length=2*M.m.ln*M.D:=stR_length F _ _ _ _ _ (Nat.le_refl _)
    have l2:(outL M p P n tk).length=M.D:=rmsZ_length _ _ _
    refine⟨0,rowL M p P n tk,outL M p P n tk,?_,?_⟩
    ·intro E L N O Y U D La Ya W pa pc A C hM hA hP hC
     refine (Step_ok M E L N O Y U D La Ya W hM hA pa n pc p tk (fun w' a m c b j k=>m=2*M.m.ln*M.D∧j=M.D∧Reads .i64 w' a (2*M.m.ln*M.D) (rowL M p P n tk)∧Reads .i64 w' b M.D (outL M p P n tk)) hE (fun W' hb'=>(mdstep_call M E L N O Y U D La Ya F ok.ok (fun h=>ok.adapter h) p hp tk ht.2 W' (hM.below hb') (hA.below hb') pa n pc A C P (hP.below hb') hC hcn hW).mono fun e w' h=>?_)).mono fun e w' h=>?_
     ·obtain⟨⟨a,c,b,k,rfl,h1,h2,h3,h4,h5⟩,h6⟩:=h
      exact⟨⟨a,_,c,b,_,k,rfl,rfl,rfl,h1,h3⟩,h6⟩
     ·obtain⟨⟨a,m,c,b,j,k,rfl,rfl,rfl,h1,h2⟩,h3⟩:=h
      rw[l1,l2]
      exact⟨⟨a,c,b,k,rfl,h1,h2⟩,h3⟩
    ·intro E L N O Y U D La Ya W pa pc A C hM hA hP hC
     refine (rdstep_call M E L N O Y U D La Ya F hE p hp tk ht.2 W hM hA hml hal pa n pc A C P hP hC hcn hW).mono fun e w' h=>?_
     obtain⟨⟨a,c,b,k,rfl,h1,h2,h3,h4,h5⟩,h6⟩:=h
     rw[l1,l2]
     exact⟨⟨a,c,b,k,rfl,h1,h3⟩,h6⟩
   ·have hbad:(n:Int)=p-seeZ p M.n→∃ r,r<n∧¬((P r).length:Int)=widthZ M.d M.h M.l M.v M.u M.x M.t M.n:=fun h=>by
     have hh:¬∀ r,r<n→((P r).length:Int)=widthZ M.d M.h M.l M.v M.u M.x M.t M.n:=fun k=>hb ⟨h,k⟩
     exact Classical.byContradiction fun k=>hh fun r hr=>Classical.byContradiction fun k2=>k ⟨r,hr,k2⟩
    refine⟨21,[],[],?_,?_⟩
    ·intro E L N O Y U D La Ya W pa pc A C hM hA hP hC
     exact (Step_inner M E L N O Y U D La Ya W hM hA pa n pc p tok (fun _ _ _ _ _ _ _=>True) 21 hE (fun W' hb'=>step_shape M E L N O La F W' pa n pc A C P (hP.below hb') hC p hp tok ht hbad)).mono fun e w' h=>none2 h
    ·intro E L N O Y U D La Ya W pa pc A C hM hA hP hC
     exact (rdstep_shape M E L N O Y U D La Ya F hE W hM hA hml hal pa n pc A C P hP hC p hp tok ht hbad).mono fun e w' h=>none2 h
 ·refine⟨badE M,[],[],?_,?_⟩
  ·intro E L N O Y U D La Ya W pa pc A C hM hA hP hC
   exact (Step_bad M E L N O Y U D La Ya W hM hA pa n pc p tok (fun _ _ _ _ _ _ _=>True) hE).mono fun e w' h=>none2 h
  ·intro E L N O Y U D La Ya W pa pc A C hM hA hP hC
   exact (rdstep_bad M E L N O Y U D La Ya hE W hM hA hml hal pa n pc p tok).mono fun e w' h=>none2 h
theorem drewN_below (w:World)(m:Nat):Below w.heap.size w (w.drewN m):=bDr (Below.refl _ _) ⟨m,rfl⟩
theorem steps_walk (M:Md)(E L N O:SL)(Y U D:Nat→Nat→SL)(La:SL)(Ya:Nat→Nat→SL)(w:World)(hM:ModAt w E L N O Y U D M.m)(hA:AdAt w La Ya M.a)(hml:M.m.ln≤9223372036854775807)(hal:M.a.ln≤9223372036854775807)(hF:M.m.ln≤20→Fits M.m)(hFA:M.a.ln≤20→FitsA M.a)
  (pa:Option Addr) (n pc:Nat) (A:Nat→Option Addr) (C:Nat→Nat) (P:Nat→List Int) (hP:Grid w pa n A C P) (hC:∀ r,r<n→(A r=none→C r=0)∧(P r).length≤C r) (bn:n*24≤140737488351232) (gP:∀ r,r<n→(P r).length*8≤140737488351232) (p tok:Int) :
  Calls Tryz.prog 3 #[.agg #[.int .i64 M.d,.int .i64 M.h,.int .i64 M.l,.int .i64 M.v,.int .i64 M.u,.int .i64 M.x,.int .i64 M.t,.int .i64 M.n,.slice E.a E.n E.c,.slice L.a L.n L.c,.slice N.a N.n N.c,.slice O.a O.n O.c],.agg #[.int .i64 M.r,.int .i64 M.s,.slice La.a La.n La.c],.slice pa n pc,.int .i64 p,.int .i64 tok] w fun e w'=>e=.returned (.bool true)∧Below w.heap.size w w':=by
 have hb:=bNw (bNw (Below.refl w.heap.size w) (.cells #[.int .i64 M.d,.int .i64 M.h,.int .i64 M.l,.int .i64 M.v,.int .i64 M.u,.int .i64 M.x,.int .i64 M.t,.int .i64 M.n,.slice E.a E.n E.c,.slice L.a L.n L.c,.slice N.a N.n N.c,.slice O.a O.n O.c] 27)) (.cells #[.int .i64 M.r,.int .i64 M.s,.slice La.a La.n La.c] 30)
 have qM:Blk 27 ((w.alloc (.cells #[.int .i64 M.d,.int .i64 M.h,.int .i64 M.l,.int .i64 M.v,.int .i64 M.u,.int .i64 M.x,.int .i64 M.t,.int .i64 M.n,.slice E.a E.n E.c,.slice L.a L.n L.c,.slice N.a N.n N.c,.slice O.a O.n O.c] 27)).alloc (.cells #[.int .i64 M.r,.int .i64 M.s,.slice La.a La.n La.c] 30)) w.heap.size #[.int .i64 M.d,.int .i64 M.h,.int .i64 M.l,.int .i64 M.v,.int .i64 M.u,.int .i64 M.x,.int .i64 M.t,.int .i64 M.n,.slice E.a E.n E.c,.slice L.a L.n L.c,.slice N.a N.n N.c,.slice O.a O.n O.c]:=(Blk.new 27 w _).kept (bNw (Below.refl _ _) _)
 have qA:Blk 30 ((w.alloc (.cells #[.int .i64 M.d,.int .i64 M.h,.int .i64 M.l,.int .i64 M.v,.int .i64 M.u,.int .i64 M.x,.int .i64 M.t,.int .i64 M.n,.slice E.a E.n E.c,.slice L.a L.n L.c,.slice N.a N.n N.c,.slice O.a O.n O.c] 27)).alloc (.cells #[.int .i64 M.r,.int .i64 M.s,.slice La.a La.n La.c] 30)) (w.heap.size+1) #[.int .i64 M.r,.int .i64 M.s,.slice La.a La.n La.c]:=Blk.new_at 30 (w.alloc _) _ _ (by simp)
 have hn:=hP.max
 have eL:=hM.len
 have eLa:=hA.len
 have HM0:=hdn hM
 have HA0:=hdn hA
 have HG:=hdn hP
 by_cases g1:10<L.n
 ·have c1:(10:Int)<(L.n:Int):=by omega
  have m1:L.n≤9223372036854775807:=by omega
  obtain⟨a0,a1,a2,a3,a4,a5,a6,a7,a8,a9,a10,a11⟩:=qM.c12
  clear hM hA hP hC gP hF hFA qM qA eL eLa hml hal
  go_enter Tryz.func3,Tryz.ntmps3
  go_wp2
  go_ret
  exact⟨rfl,hb⟩
 have c1:¬(10:Int)<(L.n:Int):=by omega
 have m1:L.n≤9223372036854775807:=by omega
 by_cases g2:10<La.n
 ·have c2:(10:Int)<(La.n:Int):=by omega
  have m2:La.n≤9223372036854775807:=by omega
  obtain⟨a0,a1,a2,a3,a4,a5,a6,a7,a8,a9,a10,a11⟩:=qM.c12
  obtain⟨d0,d1,d2⟩:=qA.c3
  clear hM hA hP hC gP hF hFA qM qA eL eLa hml hal
  go_enter Tryz.func3,Tryz.ntmps3
  go_wp2
  go_ret
  exact⟨rfl,hb⟩
 have c2:¬(10:Int)<(La.n:Int):=by omega
 have m2:La.n≤9223372036854775807:=by omega
 by_cases g3:50<n
 ·have c3:(50:Int)<(n:Int):=by omega
  obtain⟨a0,a1,a2,a3,a4,a5,a6,a7,a8,a9,a10,a11⟩:=qM.c12
  obtain⟨d0,d1,d2⟩:=qA.c3
  clear hM hA hP hC gP hF hFA qM qA eL eLa hml hal
  go_enter Tryz.func3,Tryz.ntmps3
  go_wp2
  go_ret
  exact⟨rfl,hb⟩
 ·have c3:¬(50:Int)<(n:Int):=by omega
  obtain⟨ee,rs,os,kk⟩:=step_both M hml hal n P p tok
  have hFm:=hF (by omega)
  have hFa:=hFA (by omega)
  have hl2:M.m.ln≤10∧M.a.ln≤10:=by omega
  have hun:∀ i,i<M.m.ln→M.m.un i≤9223372036854775807∧M.m.dn i≤9223372036854775807:=fun i hi=>by
   have h1:=hFm.un i hi
   have h2:=hFm.dn i hi
   omega
  obtain⟨a0,a1,a2,a3,a4,a5,a6,a7,a8,a9,a10,a11⟩:=qM.c12
  obtain⟨d0,d1,d2⟩:=qA.c3
  have HX:=hdn (And.intro hFm (And.intro hFa (And.intro hun (And.intro kk (And.intro hC (And.intro gP (And.intro eL (And.intro eLa hl2))))))))
  have HQ:=hdn (And.intro qM qA)
  clear hM hA hP hC gP hF hFA qM qA eL eLa hun kk hFm hFa hl2
  go_enter Tryz.func3,Tryz.ntmps3
  go_wp2
  obtain⟨qM,qA⟩:=HQ.out
  obtain⟨hFm,hFa,hun,kk,hC,gP,eL,eLa,hl2⟩:=HX.out
  refine ms3_region M E L N O Y U D La Ya w.heap.size (w.heap.size+1) (HM0.out.below hb) (HA0.out.below hb) hFm hFa qM qA (by kernel_rfl) rfl ⟨_,rfl,rfl,rfl,rfl,by kernel_rfl⟩ ⟨_,rfl,rfl,rfl,rfl,by kernel_rfl⟩ ⟨_,rfl,rfl,rfl,rfl,by kernel_rfl⟩ ⟨_,rfl,rfl,rfl,rfl,by kernel_rfl⟩ ⟨_,rfl,rfl,rfl,rfl,by kernel_rfl⟩ ⟨_,rfl,rfl,rfl,rfl,by kernel_rfl⟩ ⟨_,rfl,rfl,rfl,rfl,by kernel_rfl⟩ ⟨_,rfl,rfl,rfl,rfl,by kernel_rfl⟩ rfl rfl (Nat.le_of_ble_eq_true rfl) ?_
  intro a3 W3 b1 b2 E' L' N' O' La' Y' U' D' Ya' hs hd hkp eA1 eA2 hb3 mA aA q1 q2
  have ep:=fPu [34,35,36,37,11,12] hs hd (fun s h=>hkp s (fun i hi e=>h (by
   rcases (show i=0∨i=1∨i=2∨i=3∨i=4∨i=5∨i=6∨i=7 by omega) with rfl|rfl|rfl|rfl|rfl|rfl|rfl|rfl<;>first|(simp only[ms3D,Option.some.injEq] at e;subst e;simp)|(simp only[ms3D] at e;cases e))))
  simp only[List.foldl] at ep
  rw[eA1,eA2] at ep
  clear hs hd hkp eA1 eA2
  generalize a3.tmps.getD 34 undef=g34,a3.tmps.getD 35 undef=g35,a3.tmps.getD 36 undef=g36,a3.tmps.getD 37 undef=g37 at ep
  simp only[Act.put,List.setIfInBounds_toArray,List.set_cons_succ,List.set_cons_zero] at ep
  subst ep
  have hb3':=bTn hb hb3
  have HB3:=hdn hb3'
  have H3:=hdn (And.intro mA (And.intro aA (And.intro q1 (And.intro q2 (And.intro (qM.kept hb3) (qA.kept hb3))))))
  have HC:=hdn (And.intro hC (And.intro gP (And.intro hun (And.intro kk hl2))))
  clear a0 a1 a2 a3 a4 a5 a6 a7 a8 a9 a10 a11 d0 d1 d2 HX HQ hb hb3 mA aA q1 q2 qM qA hC gP hun kk eL eLa hl2 hFm hFa hb3' c1 c2 c3 g1 g2
  go_wp2
  obtain⟨mA,aA,q1,q2,qM,qA⟩:=H3.out
  obtain⟨hC,gP,hun,kk,hl2⟩:=HC.out
  have hb3':=HB3.out
  refine ms4_region M E' L' N' O' La' b1 b2 n pc pa p tok ee (fun W a c=>∃ A C,Grid W a n A C P∧∀ r,r<n→(P r).length≤C r) (fun W a m c=>m=rs.length∧Reads .i64 W a rs.length rs) (fun W a m c=>m=os.length∧Reads .i64 W a os.length os) (fun W=>Below W3.heap.size W3 W) (fun h hb=>h.elim fun A h=>h.elim fun C h=>⟨A,C,h.1.below hb,h.2⟩) (fun h hb=>⟨h.1,h.2.below hb⟩) (fun h hb=>⟨h.1,h.2.below hb⟩) (by kernel_rfl) rfl ⟨_,rfl,rfl,rfl,rfl,by kernel_rfl⟩ ⟨_,rfl,rfl,rfl,rfl,by kernel_rfl⟩ ⟨_,rfl,rfl,rfl,rfl,by kernel_rfl⟩ ⟨_,rfl,rfl,rfl,rfl,by kernel_rfl⟩ ⟨_,rfl,rfl,rfl,rfl,by kernel_rfl⟩ ⟨_,rfl,rfl,rfl,rfl,by kernel_rfl⟩ ⟨_,rfl,rfl,rfl,rfl,by kernel_rfl⟩ ⟨_,rfl,rfl,rfl,rfl,by kernel_rfl⟩ ⟨_,rfl,rfl,rfl,rfl,by kernel_rfl⟩ ⟨_,rfl,rfl,rfl,rfl,by kernel_rfl⟩ ⟨_,rfl,rfl,rfl,rfl,by kernel_rfl⟩ ⟨_,rfl,rfl,rfl,rfl,by kernel_rfl⟩ ⟨_,rfl,rfl,rfl,rfl,by kernel_rfl⟩ ⟨_,rfl,rfl,rfl,rfl,by kernel_rfl⟩ (Below.refl _ _).drew (fun w hw=>rL7 (q1.kept hw)) (fun w hw=>rL3 (q2.kept hw)) (fun w hw=>(ownRows_call pa n pc A C P w (HG.out.below (bTn hb3' hw)) (fun r hr=>(hC r hr).1) bn gP).mono fun e w' h=>by obtain⟨⟨a,c,A',C',rfl,h1,h2⟩,h3⟩:=h;exact⟨⟨a,c,rfl,A',C',h1,h2⟩,h3,bTn hw h3⟩) (fun w ya yc hw hg=>by obtain⟨A',C',h1,h2⟩:=hg;exact (kk.1 E' L' N' O' Y' U' D' La' Ya' w ya yc A' C' (mA.below hw) (aA.below hw) h1 h2).mono fun e w' h=>by obtain⟨⟨ra,rc,oa,oc,rfl,h1,h2⟩,h3⟩:=h;exact⟨⟨ra,_,rc,oa,_,oc,rfl,⟨rfl,h1⟩,⟨rfl,h2⟩⟩,h3,bTn hw h3⟩) rfl rfl rfl rfl rfl (Nat.le_of_ble_eq_true rfl) ?_
  intro a W9 hs hd hkp hS9 hval
  have e15:a.tmps.getD 15 undef=.int .i64 ee:=hval 13 15 (by decide) rfl
  obtain⟨ra,rm,rc,e13,hm13,f13⟩:=hval 11 13 (by decide) rfl
  obtain⟨oa,om,oc,e14,hm14,f14⟩:=hval 12 14 (by decide) rfl
  have ep:=fPu [39,40,41,42,43,44,45,38,46,47,48,13,14,15] hs hd (fun s h=>hkp s (fun i hi e=>h (by
   rcases (show i=0∨i=1∨i=2∨i=3∨i=4∨i=5∨i=6∨i=7∨i=8∨i=9∨i=10∨i=11∨i=12∨i=13 by omega) with rfl|rfl|rfl|rfl|rfl|rfl|rfl|rfl|rfl|rfl|rfl|rfl|rfl|rfl<;>(simp only[ms4D,Option.some.injEq] at e;subst e;simp))))
  simp only[List.foldl] at ep
  rw[e15] at ep
  rw[e13] at ep
  rw[e14] at ep
  have H9:=hdn hS9
  clear hs hd hkp hval hS9 e15 e13 e14
  generalize a.tmps.getD 39 undef=g39,a.tmps.getD 40 undef=g40,a.tmps.getD 41 undef=g41,a.tmps.getD 42 undef=g42,a.tmps.getD 43 undef=g43,a.tmps.getD 44 undef=g44,a.tmps.getD 45 undef=g45,a.tmps.getD 38 undef=g38,a.tmps.getD 46 undef=g46,a.tmps.getD 47 undef=g47,a.tmps.getD 48 undef=g48 at ep
  simp only[Act.put,List.setIfInBounds_toArray,List.set_cons_succ,List.set_cons_zero] at ep
  subst ep
  obtain rfl:=hm13
  obtain rfl:=hm14
  have hb4:Below W3.heap.size W3 W9:=H9.out
  have HB4:=hdn (bTn hb3' hb4)
  have H4:=hdn (And.intro (mA.below hb4) (And.intro (aA.below hb4) (And.intro (q1.kept hb4) (And.intro (q2.kept hb4) (And.intro (qM.kept hb4) (And.intro (qA.kept hb4) (And.intro f13 f14)))))))
  have k13:=fun W (hW:Below W9.heap.size W9 W)=>kk.2 E L N O Y U D La Ya W pa pc A C (HM0.out.below (bTn HB4.out hW)) (HA0.out.below (bTn HB4.out hW)) (HG.out.below (bTn HB4.out hW)) (fun r hr=>(hC r hr).2)
  obtain⟨a0,a1,a2,a3,a4,a5,a6,a7,a8,a9,a10,a11⟩:=(qM.kept hb4).c12
  obtain⟨d0,d1,d2⟩:=(qA.kept hb4).c3
  have HC2:=hdn (And.intro hun hl2)
  clear H3 HC HB3 H9 hb4 mA aA q1 q2 qM qA hC gP hun kk hb3' f13 f14 hml hal bn hl2
  go_wp2_with (go_at_call 13;refine (k13 _ (Below.refl _ _)).mono ?_;rintro e W5 ⟨⟨sa,sc,ua,uc,rfl,r2,r4⟩,hb5⟩;clear k13)
  obtain⟨mA,aA,q1,q2,qM,qA,r1,r3⟩:=H4.out
  replace mA:=mA.below hb5
  replace aA:=aA.below hb5
  replace q1:=q1.kept hb5
  replace q2:=q2.kept hb5
  replace qM:=qM.kept hb5
  replace qA:=qA.kept hb5
  replace r1:=r1.below hb5
  replace r3:=r3.below hb5
  have hb5':=bTn HB4.out hb5
  have HM:=hdn (HM0.out.below hb5')
  have HA:=hdn (HA0.out.below hb5')
  obtain⟨hun,hl2⟩:=HC2.out
  clear H4 HB4 HC2 hb5 a0 a1 a2 a3 a4 a5 a6 a7 a8 a9 a10 a11 d0 d1 d2
  refine ms6_region M E L N O La E' L' N' O' La' w.heap.size (w.heap.size+1) b1 b2 rs.length os.length rc sc oc uc ra sa oa ua ee (widthZ M.d M.h M.l M.v M.u M.x M.t M.n) (fun W=>Below W5.heap.size W5 W) (by kernel_rfl) rfl ⟨_,rfl,rfl,rfl,rfl,by kernel_rfl⟩ ⟨_,rfl,rfl,rfl,rfl,by kernel_rfl⟩ ⟨_,rfl,rfl,rfl,rfl,by kernel_rfl⟩ ⟨_,rfl,rfl,rfl,rfl,by kernel_rfl⟩ ⟨_,rfl,rfl,rfl,rfl,by kernel_rfl⟩ ⟨_,rfl,rfl,rfl,rfl,by kernel_rfl⟩ ⟨_,rfl,rfl,rfl,rfl,by kernel_rfl⟩ ⟨_,rfl,rfl,rfl,rfl,by kernel_rfl⟩ ⟨_,rfl,rfl,rfl,rfl,by kernel_rfl⟩ ⟨_,rfl,rfl,rfl,rfl,by kernel_rfl⟩ ⟨_,rfl,rfl,rfl,rfl,by kernel_rfl⟩ ⟨_,rfl,rfl,rfl,rfl,by kernel_rfl⟩ ⟨_,rfl,rfl,rfl,rfl,by kernel_rfl⟩ ⟨_,rfl,rfl,rfl,rfl,by kernel_rfl⟩ ⟨_,rfl,rfl,rfl,rfl,by kernel_rfl⟩ ⟨_,rfl,rfl,rfl,rfl,by kernel_rfl⟩ ⟨_,rfl,rfl,rfl,rfl,by kernel_rfl⟩ ⟨_,rfl,rfl,rfl,rfl,by kernel_rfl⟩ ⟨_,rfl,rfl,rfl,rfl,by kernel_rfl⟩ ⟨_,rfl,rfl,rfl,rfl,by kernel_rfl⟩ ⟨_,rfl,rfl,rfl,rfl,by kernel_rfl⟩ ⟨_,rfl,rfl,rfl,rfl,by kernel_rfl⟩ ⟨_,rfl,rfl,rfl,rfl,by kernel_rfl⟩ ⟨_,rfl,rfl,rfl,rfl,by kernel_rfl⟩ ⟨_,rfl,rfl,rfl,rfl,by kernel_rfl⟩ ⟨_,rfl,rfl,rfl,rfl,by kernel_rfl⟩ ⟨_,rfl,rfl,rfl,rfl,by kernel_rfl⟩ ⟨_,rfl,rfl,rfl,rfl,by kernel_rfl⟩ ⟨_,rfl,rfl,rfl,rfl,by kernel_rfl⟩ ⟨_,rfl,rfl,rfl,rfl,by kernel_rfl⟩ ⟨_,rfl,rfl,rfl,rfl,by kernel_rfl⟩ ⟨_,rfl,rfl,rfl,rfl,by kernel_rfl⟩ ⟨_,rfl,rfl,rfl,rfl,by kernel_rfl⟩ (Below.refl _ _).drew (fun w hw=>(same_call ra rs.length rc rs sa rs.length sc w (r1.below hw) (r2.below hw)).mono fun e w' h=>by obtain⟨h1,m,rfl⟩:=h;exact⟨h1,drewN_below w m,bTn hw (drewN_below w m)⟩) (fun w hw=>(same_call oa os.length oc os ua os.length uc w (r3.below hw) (r4.below hw)).mono fun e w' h=>by obtain⟨h1,m,rfl⟩:=h;exact⟨h1,drewN_below w m,bTn hw (drewN_below w m)⟩) (fun w=>by go_simp) (fun w=>run_field27 _ 0 0 (by omega) w) (fun w hw=>run_cfg12 (qM.kept hw)) (fun w hw=>(md_width M.d M.h M.l M.v M.u M.x M.t M.n w).mono fun e w' h=>⟨h.1,h.2,bTn hw h.2⟩) (fun w=>run_field27 _ 0 0 (by omega) w) (fun w hw=>run_cfg12 (qM.kept hw)) (fun w hw=>(rd_width M.d M.h M.l M.v M.u M.x M.t M.n w).mono fun e w' h=>⟨h.1,h.2,bTn hw h.2⟩) (fun w=>by go_simp) (fun w hw=>rL7 (q1.kept hw)) (fun w hw=>rL7 (qM.kept hw)) (fun w hw=>(sameM_call M.d M.h M.l M.v M.u M.x M.t M.n E' L' N' O' E L N O Y' U' D' Y U D M.m w (mA.below hw) (HM.out.below hw) (by omega) hun).mono fun e w' h=>⟨h.1,h.2,bTn hw h.2⟩) (fun w hw=>rL3 (q2.kept hw)) (fun w hw=>rL3 (qA.kept hw)) (fun w hw=>(sameA_call M.r M.s La' La Ya' Ya M.a w (aA.below hw) (HA.out.below hw) (by omega)).mono fun e w' h=>⟨h.1,h.2,bTn hw h.2⟩) rfl rfl rfl rfl rfl rfl rfl rfl rfl rfl (Nat.le_of_ble_eq_true rfl) ?_
  intro a W7 hs hd hkp hS9 hval
  have e10:a.tmps.getD 10 undef=.bool true:=hval 32 10 (by decide) rfl
  have ep:=fPu [59,60,61,62,63,64,65,66,67,68,69,70,71,72,73,74,75,76,77,78,79,80,81,82,83,84,85,86,87,88,89,90,10] hs hd (fun s h=>hkp s (fun i hi e=>h (by
   rcases (show i=0∨i=1∨i=2∨i=3∨i=4∨i=5∨i=6∨i=7∨i=8∨i=9∨i=10∨i=11∨i=12∨i=13∨i=14∨i=15∨i=16∨i=17∨i=18∨i=19∨i=20∨i=21∨i=22∨i=23∨i=24∨i=25∨i=26∨i=27∨i=28∨i=29∨i=30∨i=31∨i=32 by omega) with rfl|rfl|rfl|rfl|rfl|rfl|rfl|rfl|rfl|rfl|rfl|rfl|rfl|rfl|rfl|rfl|rfl|rfl|rfl|rfl|rfl|rfl|rfl|rfl|rfl|rfl|rfl|rfl|rfl|rfl|rfl|rfl|rfl<;>(simp only[ms6D,Option.some.injEq] at e;subst e;simp))))
  simp only[List.foldl] at ep
  rw[e10] at ep
  have H7:=hdn hS9
  clear hs hd hkp hval hS9 e10
  generalize a.tmps.getD 59 undef=g59,a.tmps.getD 60 undef=g60,a.tmps.getD 61 undef=g61,a.tmps.getD 62 undef=g62,a.tmps.getD 63 undef=g63,a.tmps.getD 64 undef=g64,a.tmps.getD 65 undef=g65,a.tmps.getD 66 undef=g66,a.tmps.getD 67 undef=g67,a.tmps.getD 68 undef=g68,a.tmps.getD 69 undef=g69,a.tmps.getD 70 undef=g70,a.tmps.getD 71 undef=g71,a.tmps.getD 72 undef=g72,a.tmps.getD 73 undef=g73,a.tmps.getD 74 undef=g74,a.tmps.getD 75 undef=g75,a.tmps.getD 76 undef=g76,a.tmps.getD 77 undef=g77,a.tmps.getD 78 undef=g78,a.tmps.getD 79 undef=g79,a.tmps.getD 80 undef=g80,a.tmps.getD 81 undef=g81,a.tmps.getD 82 undef=g82,a.tmps.getD 83 undef=g83,a.tmps.getD 84 undef=g84,a.tmps.getD 85 undef=g85,a.tmps.getD 86 undef=g86,a.tmps.getD 87 undef=g87,a.tmps.getD 88 undef=g88,a.tmps.getD 89 undef=g89,a.tmps.getD 90 undef=g90 at ep
  simp only[Act.put,List.setIfInBounds_toArray,List.set_cons_succ,List.set_cons_zero] at ep
  subst ep
  have hb7:Below w.heap.size w W7:=bTn hb5' H7.out
  clear H7 hb5' mA aA q1 q2 qM qA r1 r2 r3 r4 HM HA hun
  go_wp2
  go_ret
  exact⟨rfl,hb7⟩
end Go.Proofs.YthliomlmhfjhnaaGreat
