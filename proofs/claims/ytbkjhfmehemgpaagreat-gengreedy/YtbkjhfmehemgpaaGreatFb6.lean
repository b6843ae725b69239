/- Texts put together. -/
import Derived.Test.YtbkjhfmehemgpaaGreatRows
import Derived.Below
import Derived.BigQuiet
import Derived.Deep.QuietTactic
import Derived.Deep.RegionWith
import Derived.Lib.SmallJoins
import Derived.OpenShut
import Derived.ProofKit
import Derived.WalkKit
import Derived.WalkLawsBesides
namespace Go.Proofs.YtbkjhfmehemgpaaGreat
set_option maxRecDepth 20000
set_option maxHeartbeats 16000000
open Go.ChangeShapes Go.WideShapes Go.ChangeAt Go.RowKit
set_option linter.unusedVariables false
set_option linter.unusedSimpArgs false
theorem cells3:Tryz.prog.cellsOf 3=1:=by kernel_rfl
theorem cfg_cells {H:Type}{enc:TypeId × Value→H}{W:World}{base fuel:Nat}{spare:Nat→Bool}{held:Bool}{c0 c1 c2 c3 c4 c5 c6 c7:Value}{x:DataW H × List MemPlace}
  (h:DataW.trod enc Tryz.prog W base spare held fuel 23 [c0,c1,c2,c3,c4,c5,c6,c7]=some x) :
  ∃ d h l v u x t n:Int,c0=.int .i64 d∧c1=.int .i64 h∧c2=.int .i64 l∧c3=.int .i64 v∧c4=.int .i64 u∧c5=.int .i64 x∧c6=.int .i64 t∧c7=.int .i64 n:=by
 obtain⟨xs,n,-,-,-,hlen,hf⟩:=DataW.trod_struct Tryz.underlying23 h
 have one:∀ (i:Nat) (f:Field) (c:Value),(#[c0,c1,c2,c3,c4,c5,c6,c7])[i]? = some c→f.type=3→([c0,c1,c2,c3,c4,c5,c6,c7].drop f.offset).take (Tryz.prog.cellsOf f.type)=[c]→i<xs.length→DataW.trod enc Tryz.prog W base spare held n f.type (([c0,c1,c2,c3,c4,c5,c6,c7].drop f.offset).take (Tryz.prog.cellsOf f.type))=xs[i]?→∃ z:Int,c=.int .i64 z:=fun i f c _ ht hc hi hh=>by
  rw[hc,ht,List.getElem?_eq_getElem hi] at hh
  obtain⟨z,ez,-,-⟩:=DataW.trod_int Tryz.underlying3 hh
  exact⟨z,by simpa using ez⟩
 have hl:xs.length=8:=hlen.trans (by rfl)
 obtain⟨z0,e0⟩:=one 0 _ c0 rfl rfl (by show List.take (Tryz.prog.cellsOf 3) _=_;rw[cells3];rfl) (by omega) (hf 0 _ rfl)
 obtain⟨z1,e1⟩:=one 1 _ c1 rfl rfl (by show List.take (Tryz.prog.cellsOf 3) _=_;rw[cells3];rfl) (by omega) (hf 1 _ rfl)
 obtain⟨z2,e2⟩:=one 2 _ c2 rfl rfl (by show List.take (Tryz.prog.cellsOf 3) _=_;rw[cells3];rfl) (by omega) (hf 2 _ rfl)
 obtain⟨z3,e3⟩:=one 3 _ c3 rfl rfl (by show List.take (Tryz.prog.cellsOf 3) _=_;rw[cells3];rfl) (by omega) (hf 3 _ rfl)
 obtain⟨z4,e4⟩:=one 4 _ c4 rfl rfl (by show List.take (Tryz.prog.cellsOf 3) _=_;rw[cells3];rfl) (by omega) (hf 4 _ rfl)
 obtain⟨z5,e5⟩:=one 5 _ c5 rfl rfl (by show List.take (Tryz.prog.cellsOf 3) _=_;rw[cells3];rfl) (by omega) (hf 5 _ rfl)
 obtain⟨z6,e6⟩:=one 6 _ c6 rfl rfl (by show List.take (Tryz.prog.cellsOf 3) _=_;rw[cells3];rfl) (by omega) (hf 6 _ rfl)
 obtain⟨z7,e7⟩:=one 7 _ c7 rfl rfl (by show List.take (Tryz.prog.cellsOf 3) _=_;rw[cells3];rfl) (by omega) (hf 7 _ rfl)
 exact⟨z0,z1,z2,z3,z4,z5,z6,z7,e0,e1,e2,e3,e4,e5,e6,e7⟩
end Go.Proofs.YtbkjhfmehemgpaaGreat
