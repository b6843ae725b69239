/- Texts put together. -/
import Derived.Test.YtbkjhfmehemgpaaGreatRows
import Derived.Below
import Derived.BigQuiet
import Derived.Deep.QuietTactic
import Derived.Lib.QuietBelow
import Derived.OpenShut
import Derived.ProofKit
import Derived.WalkKit
import Derived.WalkLawsBesides
import Derived.Deep.OwnRows
import Derived.Deep.RegionHeld3
import Derived.Deep.RegionLaw
import Derived.Deep.RegionWith
import Derived.Laws.AppendOwnNone
namespace Go.Proofs.YtbkjhfmehemgpaaGreat
set_option maxRecDepth 20000
set_option maxHeartbeats 16000000
open Go.ChangeShapes Go.WideShapes Go.ChangeAt Go.RowKit
set_option linter.unusedVariables false
set_option linter.unusedSimpArgs false
section
def i8 (x:Int):Int:=(x+128)%256-128
variable {t:TypeId}{w w':World}{b:Nat}{s:ByteArray}{e:Int}
end
theorem info118:(Tryz.prog.info? 118).map (fun i=>(i.zero,i.size,i.bytes))=some (some (.int .i8 0),1,1):=by kernel_rfl
theorem i46:∃ i:TypeInfo,Tryz.prog.info? 118=some i∧i.zero=some (.int .i8 0)∧i.size=1∧i.bytes=1:=by
 obtain⟨i,hi,hzz⟩:=Option.map_eq_some_iff.1 info118
 simp only[Prod.mk.injEq] at hzz
 exact⟨i,hi,hzz.1,hzz.2.1,hzz.2.2⟩
end Go.Proofs.YtbkjhfmehemgpaaGreat
