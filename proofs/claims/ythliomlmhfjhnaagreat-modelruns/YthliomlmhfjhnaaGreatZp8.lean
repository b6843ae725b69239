/- Texts put together. -/
import Derived.Test.YthliomlmhfjhnaaGreatZp1
import Derived.Test.YthliomlmhfjhnaaGreatZp3
import Derived.Deep.OwnRows
import Derived.Deep.RegionLaw
import Derived.Laws.AppendOwnNone
namespace Go.Proofs.YthliomlmhfjhnaaGreat
set_option maxRecDepth 20000
set_option maxHeartbeats 16000000
open Go.ChangeShapes Go.WideShapes Go.ChangeAt Go.RowKit
set_option linter.unusedVariables false
set_option linter.unusedSimpArgs false
theorem i46:∃ i:TypeInfo,Tryz.prog.info? 73=some i∧i.zero=some (.int .i8 0)∧i.size=1∧i.bytes=1:=by
 obtain⟨i,hi,hzz⟩:=Option.map_eq_some_iff.1 Qlf
 simp only[Prod.mk.injEq] at hzz
 exact⟨i,hi,hzz.1,hzz.2.1,hzz.2.2⟩
end Go.Proofs.YthliomlmhfjhnaaGreat
