/- Texts put together. -/
import Derived.Test.YthliomlmhfjhnaaGreatRows
import Derived.Test.YthliomlmhfjhnaaGreatZpA
import Derived.ArgAppend
import Derived.Below
import Derived.BigQuiet
import Derived.Deep.QuietTactic
import Derived.Deep.RegionLaw
import Derived.Deep.RegionWith
import Derived.Laws.AppendOwnNone
import Derived.OpenShut
import Derived.ProofKit
import Derived.WalkKit
import Derived.WalkLawsBesides
namespace Go.Proofs.YthliomlmhfjhnaaGreat
set_option maxRecDepth 20000
set_option maxHeartbeats 16000000
open Go.ChangeShapes Go.WideShapes Go.ChangeAt Go.RowKit
set_option linter.unusedVariables false
set_option linter.unusedSimpArgs false
theorem QaL {w:World}{B:Nat}{e:TypeId}{a:Option Addr}{n c:Nat}{cs:List Value}(h:w.ownsRow B e 1 (.slice a n c) n cs):n≤c:=by
 rcases h.2 with⟨h,_⟩|⟨g,cap,cur,h,_,_,hn,_⟩
 ·simp only[Value.slice.injEq] at h
  omega
 ·simp only[Value.slice.injEq] at h
  omega
def seeZ (p v:Int):Int:=if v<1 then 0 else if p<v then 0 else p-v+1
theorem QbF (p v:Int)(hp:(Lit.int .i64 p).wf=true)(hv:(Lit.int .i64 v).wf=true)(w:World) :
  Calls Tryz.prog 58 #[I4 p,I4 v] w fun e w'=>e=.returned (I4 (seeZ p v))∧w'=w:=by
 have bp:=bounds_i64 hp
 have bv:=bounds_i64 hv
 obtain⟨p0,p1⟩:=bp
 obtain⟨v0,v1⟩:=bv
 unfold seeZ
 by_cases h:v<1
 ·rw[if_pos h]
  go_enter Tryz.func58,Tryz.ntmps58
  go_wp2
  go_ret
  exact⟨rfl,rfl⟩
 ·rw[if_neg h]
  by_cases h':p<v
  ·rw[if_pos h']
   go_enter Tryz.func58,Tryz.ntmps58
   go_wp2
   go_ret
   exact⟨rfl,rfl⟩
  ·rw[if_neg h']
   go_enter Tryz.func58,Tryz.ntmps58
   go_wp2
   go_ret
   exact⟨rfl,rfl⟩
theorem Qa0 (p v:Int)(hp:(Lit.int .i64 p).wf=true)(hv:(Lit.int .i64 v).wf=true)(w:World) :
  Calls Tryz.prog 32 #[I4 p,I4 v] w fun e w'=>e=.returned (I4 (seeZ p v))∧w'=w:=by
 have bp:=bounds_i64 hp
 have bv:=bounds_i64 hv
 obtain⟨p0,p1⟩:=bp
 obtain⟨v0,v1⟩:=bv
 unfold seeZ
 by_cases h:v<1
 ·rw[if_pos h]
  go_enter Tryz.func32,Tryz.ntmps32
  go_wp2
  go_ret
  exact⟨rfl,rfl⟩
 ·rw[if_neg h]
  by_cases h':p<v
  ·rw[if_pos h']
   go_enter Tryz.func32,Tryz.ntmps32
   go_wp2
   go_ret
   exact⟨rfl,rfl⟩
  ·rw[if_neg h']
   go_enter Tryz.func32,Tryz.ntmps32
   go_wp2
   go_ret
   exact⟨rfl,rfl⟩
theorem QjR {w w':World}{p:Addr}{v:Value}(hb:Bw w w')(h:w.cell? p=some v):w'.cell? p=some v:=(hb.cell (World.block_lt_of_cell? w p h)).trans h
end Go.Proofs.YthliomlmhfjhnaaGreat
