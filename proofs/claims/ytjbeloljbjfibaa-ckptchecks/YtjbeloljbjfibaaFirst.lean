/- The document's Shape: the region that makes the model with its first list, whatever order it draws. -/
import Derived.Test.YtjbeloljbjfibaaRows
import Derived.Test.YtjbeloljbjfibaaLayer8
import Derived.Test.YtjbeloljbjfibaaConf
import Derived.Test.YtjbeloljbjfibaaBlank
import Derived.Test.YtjbeloljbjfibaaCfgRef
import Derived.Test.YtjbeloljbjfibaaSize
import Derived.Test.YtjbeloljbjfibaaSizes
import Derived.Test.YtjbeloljbjfibaaSteps
import Derived.Test.YtjbeloljbjfibaaClo54
import Derived.Test.YtjbeloljbjfibaaFill
import Derived.Test.YtjbeloljbjfibaaMods
import Derived.Test.YtjbeloljbjfibaaFills
import Derived.Test.YtjbeloljbjfibaaShape
import Derived.Test.YtjbeloljbjfibaaShapes
import Derived.Test.YtjbeloljbjfibaaCheck
import Derived.Test.YtjbeloljbjfibaaChecks
import Derived.Test.YtjbeloljbjfibaaDims
import Derived.Test.YtjbeloljbjfibaaFlat
import Derived.Test.YtjbeloljbjfibaaNumbers
import Derived.Test.YtjbeloljbjfibaaPrefix
import Derived.Test.YtjbeloljbjfibaaBody
import Derived.Test.YtjbeloljbjfibaaDecode
import Derived.WalkKit
import Derived.ProofKit
import Derived.OpenShut
import Derived.Below
import Derived.WalkLawsBesides
import Derived.Deep.QuietTactic
import Derived.BigQuiet
import Derived.Deep.RegionWith
import Derived.Deep.RegionHeld3
import Derived.Deep.OwnRows
import Derived.Deep.Slices
import Derived.Test.YtjbeloljbjfibaaTrips
import Derived.Test.YtjbeloljbjfibaaCuts
import Derived.Test.YtjbeloljbjfibaaSeeds
import Derived.Test.YtjbeloljbjfibaaInv
import Derived.Test.YtjbeloljbjfibaaMore
import Derived.Test.YtjbeloljbjfibaaTypedC
import Derived.Test.YtjbeloljbjfibaaNexts
namespace Go.Proofs.Ytjbeloljbjfibaa
open Go.ChangeShapes Go.WideShapes Go.ChangeAt Go.RowKit
set_option linter.unusedVariables false

theorem run_cfg3 {w : World} {cb : Nat} {d h l v u x t n : Int} (q : Blk 23 w cb #[.int .i64 d, .int .i64 h, .int .i64 l, .int .i64 v, .int .i64 u, .int .i64 x, .int .i64 t, .int .i64 n]) : (Instr.fieldAt 23 (.pointer (some ⟨cb, 0, none⟩)) 3).run Try.prog w = .ok (.pointer (some ⟨cb, 3, none⟩)) w ∧ (Instr.loadAt 3 (.pointer (some ⟨cb, 3, none⟩))).run Try.prog w = .ok (.int .i64 v) w := by
  obtain ⟨c0, c1, c2, c3, c4, c5, c6, c7⟩ := q.cfg
  constructor
  · go_simp
  · go_simp

theorem run_build29 (w : World) (d h l v u x t n : Int) (s : SL) : (Instr.build 29 #[(0, .agg #[.int .i64 d, .int .i64 h, .int .i64 l, .int .i64 v, .int .i64 u, .int .i64 x, .int .i64 t, .int .i64 n]), (1, .slice s.a s.n s.c)]).run Try.prog w = .ok (.agg #[.int .i64 d, .int .i64 h, .int .i64 l, .int .i64 v, .int .i64 u, .int .i64 x, .int .i64 t, .int .i64 n, .slice s.a s.n s.c, .slice none 0 0, .slice none 0 0, .slice none 0 0]) w := by
  go_simp

theorem run_store29m {w : World} {b : Nat} (q : Blk 29 w b zeroC) (d h l v u x t n : Int) (s : SL) : ∃ w', (Instr.storeAt 29 (.pointer (some ⟨b, 0, none⟩)) (.agg #[.int .i64 d, .int .i64 h, .int .i64 l, .int .i64 v, .int .i64 u, .int .i64 x, .int .i64 t, .int .i64 n, .slice s.a s.n s.c, .slice none 0 0, .slice none 0 0, .slice none 0 0])).run Try.prog w = .ok () w' ∧ Blk 29 w' b #[.int .i64 d, .int .i64 h, .int .i64 l, .int .i64 v, .int .i64 u, .int .i64 x, .int .i64 t, .int .i64 n, .slice s.a s.n s.c, .slice none 0 0, .slice none 0 0, .slice none 0 0] ∧ Only b w w' := by
  have q' : Blk 29 w b #[.int .i64 0, .int .i64 0, .int .i64 0, .int .i64 0, .int .i64 0, .int .i64 0, .int .i64 0, .int .i64 0, nilS, nilS, nilS, nilS] := q
  obtain ⟨z0, z1, z2, z3, z4, z5, z6, z7, z8, z9, z10, z11⟩ := q'.c12
  obtain ⟨o0, o1, o2, o3, o4, o5, o6, o7, o8, o9, o10, o11⟩ := q'.o12
  obtain ⟨W6, eW, q6, only, hz⟩ := set12 q' (.int .i64 d) (.int .i64 h) (.int .i64 l) (.int .i64 v) (.int .i64 u) (.int .i64 x) (.int .i64 t) (.int .i64 n) (.slice s.a s.n s.c) (.slice none 0 0) (.slice none 0 0) (.slice none 0 0)
  refine ⟨W6, ?_, q6, only⟩
  rw [← eW]
  clear eW q6 only hz q q'
  go_simp

def firD (i : Nat) : Option Nat := match i with | 0 => some 27 | 1 => some 28 | 2 => some 29 | 3 => some 30 | 4 => some 31 | 5 => some 32 | 6 => some 33 | 7 => some 34 | 8 => some 8 | _ => none
theorem firD_inj : ∀ i, i < 10 → ∀ j, j < 10 → firD i = firD j → firD i ≠ none → i = j := by decide

/-- the model with its first list alone -/
def firM (d h l v u x t n : Int) (s : SL) : Array Value := #[.int .i64 d, .int .i64 h, .int .i64 l, .int .i64 v, .int .i64 u, .int .i64 x, .int .i64 t, .int .i64 n, .slice s.a s.n s.c, .slice none 0 0, .slice none 0 0, .slice none 0 0]

def firF (d h l v u x t n VD : Int) (xb cb B : Nat) (zs : List Int) (l' : Nat → Bool) (i : Nat) (q : Value) (w : World) : Prop := match i with
  | 0 => q = .agg #[.int .i64 d, .int .i64 h, .int .i64 l, .int .i64 v, .int .i64 u, .int .i64 x, .int .i64 t, .int .i64 n]
  | 1 => q = .pointer (some ⟨xb, 0, none⟩)
  | 2 => q = .pointer (some ⟨cb, 3, none⟩)
  | 3 => q = .int .i64 v
  | 4 => q = .int .i64 d
  | 5 => q = .int .i64 VD
  | 6 => ∃ s : SL, q = .slice s.a s.n s.c ∧ TS B w s zs
  | 7 => ∃ s : SL, q = .agg (firM d h l v u x t n s) ∧ TS B w s zs
  | 8 => ∃ b, q = .pointer (some ⟨b, 0, none⟩) ∧ B ≤ b ∧ (l' 9 = false → Blk 29 w b zeroC) ∧ (l' 9 = true → ∃ s : SL, Blk 29 w b (firM d h l v u x t n s) ∧ TS B w s zs)
  | _ => True

theorem firF_step {d h l v u x t n VD : Int} {xb cb B : Nat} {zs : List Int} {l1 l2 : Nat → Bool} {i : Nat} {q : Value} {w w' : World} (hh : firF d h l v u x t n VD xb cb B zs l1 i q w) (h9 : l2 9 = l1 9) (k46 : Keeps 46 w w') (k29 : Keeps 29 w w') : firF d h l v u x t n VD xb cb B zs l2 i q w' := by
  unfold firF at hh ⊢
  split
  · exact hh
  · exact hh
  · exact hh
  · exact hh
  · exact hh
  · exact hh
  · obtain ⟨s, e1, e2⟩ := hh
    exact ⟨s, e1, e2.step k46⟩
  · obtain ⟨s, e1, e2⟩ := hh
    exact ⟨s, e1, e2.step k46⟩
  · obtain ⟨b, e1, e2, e3, e4⟩ := hh
    refine ⟨b, e1, e2, fun k => k29.blk (e3 (by rw [← h9]; exact k)), fun k => ?_⟩
    obtain ⟨s, f1, f2⟩ := e4 (by rw [← h9]; exact k)
    exact ⟨s, k29.blk f1, f2.step k46⟩
  · trivial

end Go.Proofs.Ytjbeloljbjfibaa
