/- Texts put together. -/
import Derived.Test.YtbkjhfmehemgpaaGreatFb2
import Derived.Deep.Slices
namespace Go.Proofs.YtbkjhfmehemgpaaGreat
set_option maxRecDepth 20000
set_option maxHeartbeats 16000000
open Go.ChangeShapes Go.WideShapes Go.ChangeAt Go.RowKit
set_option linter.unusedVariables false
set_option linter.unusedSimpArgs false
def lcg (s:Int):Int:=IntKind.u64.wrap (IntKind.u64.wrap (s*6364136223846793005)+1442695040888963407)
def sd (s:Int):Nat→Int
 | 0=>s
 | k+1=>lcg (sd s k)
def drawn (s:Int)(j:Nat):Int:=i8 (sd s (j+1)/72057594037927936)
end Go.Proofs.YtbkjhfmehemgpaaGreat
