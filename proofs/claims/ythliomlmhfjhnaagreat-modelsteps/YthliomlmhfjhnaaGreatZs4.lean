/- Texts put together. -/
import Derived.Test.YthliomlmhfjhnaaGreatRows
import Derived.Below
import Derived.BigQuiet
import Derived.Deep.QuietTactic
import Derived.Defers
import Derived.Laws.Pointers
import Derived.OpenShut
import Derived.ProofKit
import Derived.Recover
import Derived.WalkKit
import Derived.WalkLawsBesides
import Derived.Deep.RegionLaw
import Derived.Deep.RegionWith
import Derived.Laws.AppendOwnNone
namespace Go.Proofs.YthliomlmhfjhnaaGreat
set_option maxRecDepth 20000
set_option maxHeartbeats 16000000
open Go.ChangeShapes Go.WideShapes Go.ChangeAt Go.RowKit
set_option linter.unusedVariables false
set_option linter.unusedSimpArgs false
theorem need_yes (n:Int)(w:World):Calls Tryz.prog 137 #[.bool true,.int .i64 n] w fun e w'=>e=.returned (.tuple #[])∧w'=w:=by
 have hnot:∀ (x:Bool) (w:World),(Op.unary .not (.bool x)).run Tryz.prog w=.ok (.bool (!x)) w:=fun _ _=>rfl
 go_enter Tryz.func137,Tryz.ntmps137
 go_wp2
 go_end0
 exact⟨rfl,rfl⟩
theorem must_yes (a:Option Addr)(n c:Nat)(w:World):Calls Tryz.prog 151 #[.slice a n c,.int .i64 0] w fun e w'=>e=.returned (.slice a n c)∧w'=w:=by
 have kn:=need_yes 0
 go_enter Tryz.func151,Tryz.ntmps151
 go_wp2_with (go_at_call 137;refine (kn _).mono ?_;rintro e w' ⟨rfl,rfl⟩)
 go_ret
 exact⟨rfl,rfl⟩
theorem caught_nil (w:World):Calls Tryz.prog 122 #[.nilIface] w fun e w'=>e=.returned (.int .i64 0)∧w'=w:=by
 go_enter Tryz.func122,Tryz.ntmps122
 go_wp2
 go_ret
 exact⟨rfl,rfl⟩
theorem eNo {P : Program} {f : FuncId} {fn : Func} {c : Code} (hf : P.funcs[f]? = some fn) (hname : (fn.name == "runtime.NumGoroutine") = false) (hb : fn.body = some c) (args : Array Value) (w : World) :
  (callFunc f args).run P w=.ok (.enter f args) w:=by
 have h1 : fn.name ≠ "runtime.NumGoroutine" := by simpa using hname
 simp[callFunc,hf,h1,hb]
theorem catch_idle21 (p:Addr)(x:Int)(w:World)(hc:w.cell? p=some (.int .i64 x))(hz:w.frozen? p=false) :
  CallsD Tryz.prog 121 #[.pointer (some p)] .returning w fun e u' w'=>e=.returned (.tuple #[])∧u'=.returning∧w'=w.setCell p (.int .i64 0):=by
 refine callsD_of_wpS Tryz.func121 rfl fun c₀ cs hu=>?_
 have r22:∀ args w,(callFunc 122 args).run Tryz.prog w=.ok (.enter 122 args) w:=eNo Tryz.func122 (by kernel_rfl) rfl
 apply wpS_region
 simp[wpOpsS,go_sem,recoverD,hu,Tryz.ntmps121,Exit.thenS,r22,Oper.upon]
 refine (caught_nil w).mono ?_
 rintro e w' ⟨rfl,rfl⟩
 cases c₀
 simp_all [wpOpsS,go_sem,hc,hz,bodyPostS,results,Tryz.results121,Oper.upon]
theorem sSa {w:World}{b i:Nat}{v:Value}(h:w.cell? ⟨b,i,none⟩=some v):w.setCell ⟨b,i,none⟩ v=w:=by
 unfold World.cell? at h
 split at h
 ·rename_i c e f hb
  have hc:c[i]? = some v:=by simpa using h
  obtain⟨hlt,hv⟩:=Array.getElem?_eq_some_iff.1 hc
  have hh:w.heap.modify b (fun|.cells c elem frozen=>.cells (c.setIfInBounds i v) elem frozen|o=>o)=w.heap:=by
   apply Array.ext_getElem?
   intro k
   rw[Array.getElem?_modify]
   by_cases e:b=k
   ·subst e
    simp only[if_true,hb,Option.map_some]
    congr 2
    apply Array.ext_getElem?
    intro m
    rw[Array.getElem?_setIfInBounds]
    by_cases e:i=m
    ·subst e
     simp[hlt,hv]
    ·rw[if_neg e]
   ·rw[if_neg e]
  show ({ w with heap:=w.heap.modify b (fun|.cells c elem frozen=>.cells (c.setIfInBounds i v) elem frozen|o=>o) }:World)=w
  rw[hh]
 ·cases h
theorem below_cell {w w':World}{p:Addr}{v:Value}(hb:Below w.heap.size w w')(h:w.cell? p=some v):w'.cell? p=some v:=(hb.cell (World.block_lt_of_cell? w p h)).trans h
end Go.Proofs.YthliomlmhfjhnaaGreat
