/- The examples that the statements ask for first: they come out as they should. -/
import Derived.Test.YteeljnibglnflaaRows
import Derived.Test.YteeljnibglnflaaView
import Derived.Test.YteeljnibglnflaaOwn
import Derived.WalkKit
import Derived.ProofKit
import Derived.OpenShut
import Derived.Below
import Derived.Deep.QuietTactic
import Derived.BigQuiet
import Derived.WalkLawsBesides
namespace Go.Proofs.Yteeljnibglnflaa

set_option maxRecDepth 20000

open Go.ChangeShapes Go.WideShapes Go.ChangeAt Go.RowKit

set_option linter.unusedVariables false

theorem lit_reads (k : IntKind) (w : World) (zs : List Int) (e : TypeId) (hz : zs.length ≤ 9223372036854775807) (hw : ∀ z ∈ zs, (Lit.int k z).wf = true) :
    Reads k (w.alloc (.cells (zs.map (Value.int k)).toArray e)) (some ⟨w.heap.size, 0, none⟩) zs.length zs :=
  own_reads_at (World.ownsRow_lit (base := w.heap.size) (size := 1) w (zs.map (Value.int k)).toArray zs.length (Nat.le_refl _) (by unfold maxLen; exact hz) (by simp)) rfl hw (fun j hj => by simp [hj])

theorem lit1 (k : IntKind) (w : World) (e : TypeId) (g : Nat) (hg : g = w.heap.size) (a : Int) (ha : (Lit.int k a).wf = true) : Reads k (w.alloc (.cells #[.int k a] e)) (some ⟨g, 0, none⟩) 1 [a] := by
  subst hg
  exact lit_reads k w [a] e (by simp) (by simp [ha])

theorem lit2 (k : IntKind) (w : World) (e : TypeId) (g : Nat) (hg : g = w.heap.size) (a b : Int) (ha : (Lit.int k a).wf = true) (hb : (Lit.int k b).wf = true) :
    Reads k (w.alloc (.cells #[.int k a, .int k b] e)) (some ⟨g, 0, none⟩) 2 [a, b] := by
  subst hg
  exact lit_reads k w [a, b] e (by simp) (by simp [ha, hb])

theorem lit4 (k : IntKind) (w : World) (e : TypeId) (g : Nat) (hg : g = w.heap.size) (a b c d : Int) (ha : (Lit.int k a).wf = true) (hb : (Lit.int k b).wf = true) (hc : (Lit.int k c).wf = true) (hd : (Lit.int k d).wf = true) :
    Reads k (w.alloc (.cells #[.int k a, .int k b, .int k c, .int k d] e)) (some ⟨g, 0, none⟩) 4 [a, b, c, d] := by
  subst hg
  exact lit_reads k w [a, b, c, d] e (by simp) (by simp [ha, hb, hc, hd])

end Go.Proofs.Yteeljnibglnflaa
