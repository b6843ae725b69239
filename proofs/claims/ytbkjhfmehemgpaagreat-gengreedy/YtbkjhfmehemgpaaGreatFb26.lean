/- Texts put together. -/
import Derived.Test.YtbkjhfmehemgpaaGreatFb23
import Derived.Deep.Slices
import Derived.Lib.QuietBelow
namespace Go.Proofs.YtbkjhfmehemgpaaGreat
set_option maxRecDepth 20000
set_option maxHeartbeats 16000000
open Go.ChangeShapes Go.WideShapes Go.ChangeAt Go.RowKit
set_option linter.unusedVariables false
set_option linter.unusedSimpArgs false
def zeroC:Array Value:=#[.int .i64 0,.int .i64 0,.int .i64 0,.int .i64 0,.int .i64 0,.int .i64 0,.int .i64 0,.int .i64 0,nilS,nilS,nilS,nilS]
theorem run_load23 {w:World}{cb:Nat}{d h l v u x t n:Int}(q:Blk 23 w cb #[.int .i64 d,.int .i64 h,.int .i64 l,.int .i64 v,.int .i64 u,.int .i64 x,.int .i64 t,.int .i64 n]):(Instr.loadAt 23 (.pointer (some ⟨cb,0,none⟩))).run Tryz.prog w=.ok (.agg #[.int .i64 d,.int .i64 h,.int .i64 l,.int .i64 v,.int .i64 u,.int .i64 x,.int .i64 t,.int .i64 n]:Value) w:=by
 obtain⟨c0,c1,c2,c3,c4,c5,c6,c7⟩:=q.cfg
 go_simp
theorem run_alloc29 (w:World):(Instr.alloc 34 true (.tuple #[])).run Tryz.prog w=.ok (.pointer (some ⟨w.heap.size,0,none⟩)) (w.alloc (.cells zeroC 34)):=by
 unfold zeroC
 go_simp
theorem dep_of {ops:Array Oper}{o:Oper}{l:Nat→Bool}{deps:List Nat}(hp:deps.all (fun d=>o.after.any fun e=>e.on==d && Region.binds .any e)=true)(hd:∀ e∈o.after,Region.binds .any e=true→l e.on=true):∀ d∈deps,l d=true:=by
 intro d hm
 have:=List.all_eq_true.1 hp d hm
 obtain⟨i,hi,h2⟩:=Array.any_eq_true.1 this
 simp only[Bool.and_eq_true,beq_iff_eq] at h2
 rw[←h2.1]
 exact hd o.after[i] (Array.getElem_mem hi) h2.2
end Go.Proofs.YtbkjhfmehemgpaaGreat
