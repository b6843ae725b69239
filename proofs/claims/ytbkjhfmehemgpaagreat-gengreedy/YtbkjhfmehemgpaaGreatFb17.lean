/- Texts put together. -/
import Derived.Test.YtbkjhfmehemgpaaGreatFb1
import Derived.Test.YtbkjhfmehemgpaaGreatFb5
namespace Go.Proofs.YtbkjhfmehemgpaaGreat
set_option maxRecDepth 20000
set_option maxHeartbeats 16000000
open Go.ChangeShapes Go.WideShapes Go.ChangeAt Go.RowKit
set_option linter.unusedVariables false
set_option linter.unusedSimpArgs false
def bz0 (s n:Int):Int:=IntKind.u64.wrap (s+IntKind.u64.wrap (IntKind.u64.wrap (IntKind.u64.wrap n+1)*11400714819323198485))
def bz1 (z:Int):Int:=IntKind.u64.wrap (bits .xor .u64 z (z/1073741824)*13787848793156543929)
def bz2 (z:Int):Int:=IntKind.u64.wrap (bits .xor .u64 z (z/134217728)*10723151780598845931)
def bz3 (z:Int):Int:=bits .xor .u64 z (z/2147483648)
def bitsZ (s n:Int):Int:=bz3 (bz2 (bz1 (bz0 s n)))
theorem bits_call (s n:Int)(w:World) :
  Calls Tryz.prog 89 #[.int .u64 s,.int .i64 n] w fun e w'=>e=.returned (.int .u64 (bitsZ s n))∧w'=w:=by
 go_enter Tryz.func89,Tryz.ntmps89
 go_wp2
 all_goals (go_ret;exact⟨ret_int rfl,rfl⟩)
def heatZ (x:Nat):Int:=max (fixN x) 0
theorem heat_call (x:Nat)(w:World) :
  Calls Tryz.prog 87 #[.float .f64 x] w fun e w'=>e=.returned (.tuple #[.int .i64 (heatZ x),.int .i64 (fixE x)])∧w'=w:=by
 have kf:=fun W=>fix_call x W
 unfold heatZ
 obtain⟨F,eF⟩:∃ F,fixN x=F:=⟨_,rfl⟩
 obtain⟨G,eG⟩:∃ G,fixE x=G:=⟨_,rfl⟩
 rw[eF,eG] at kf ⊢
 clear eF eG
 go_enter Tryz.func87,Tryz.ntmps87
 go_wp2_with (go_at_call 123;refine (kf _).mono ?_;rintro e w' ⟨rfl,h⟩;obtain rfl:=h.symm)
 all_goals (go_ret2;refine⟨ret_pair ?_ rfl,rfl⟩)
 all_goals omega
end Go.Proofs.YtbkjhfmehemgpaaGreat
