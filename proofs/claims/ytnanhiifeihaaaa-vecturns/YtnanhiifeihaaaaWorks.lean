/- The examples that the statements ask for first: they come out as they should. -/
import Derived.Test.YtnanhiifeihaaaaRows
import Derived.Test.YtnanhiifeihaaaaSat
import Derived.Test.YtnanhiifeihaaaaSatRef
import Derived.Test.YtnanhiifeihaaaaAdds
import Derived.Test.YtnanhiifeihaaaaView
import Derived.Test.YtnanhiifeihaaaaOwn
import Derived.Test.YtnanhiifeihaaaaDots
import Derived.Test.YtnanhiifeihaaaaDotsRef
import Derived.Test.YtnanhiifeihaaaaScale
import Derived.Test.YtnanhiifeihaaaaFits
import Derived.Test.YtnanhiifeihaaaaMats
import Derived.WalkKit
import Derived.ProofKit
import Derived.OpenShut
import Derived.Below
import Derived.WalkLawsBesides
namespace Go.Proofs.Ytnanhiifeihaaaa
open Go.ChangeShapes Go.WideShapes Go.ChangeAt Go.RowKit
set_option linter.unusedVariables false

theorem lit_reads (k : IntKind) (w : World) (zs : List Int) (e : TypeId) (hz : zs.length ≤ 9223372036854775807) (hw : ∀ z ∈ zs, (Lit.int k z).wf = true) :
    Reads k (w.alloc (.cells (zs.map (Value.int k)).toArray e)) (some ⟨w.heap.size, 0, none⟩) zs.length zs :=
  own_reads_at (World.ownsRow_lit (base := w.heap.size) (size := 1) w (zs.map (Value.int k)).toArray zs.length (Nat.le_refl _) (by unfold maxLen; exact hz) (by simp)) rfl hw (fun j hj => by simp [hj])

theorem lit1 (k : IntKind) (w : World) (e : TypeId) (g : Nat) (hg : g = w.heap.size) (a : Int) (ha : (Lit.int k a).wf = true) : Reads k (w.alloc (.cells #[.int k a] e)) (some ⟨g, 0, none⟩) 1 [a] := by
  subst hg
  exact lit_reads k w [a] e (by simp) (by simp [ha])
theorem lit2 (k : IntKind) (w : World) (e : TypeId) (g : Nat) (hg : g = w.heap.size) (a b : Int) (ha : (Lit.int k a).wf = true) (hb : (Lit.int k b).wf = true) :
    Reads k (w.alloc (.cells #[.int k a, .int k b] e)) (some ⟨g, 0, none⟩) 2 [a, b] := by
  subst hg
  exact lit_reads k w [a, b] e (by simp) (by simp [ha, hb])
theorem lit4 (k : IntKind) (w : World) (e : TypeId) (g : Nat) (hg : g = w.heap.size) (a b c d : Int) (ha : (Lit.int k a).wf = true) (hb : (Lit.int k b).wf = true) (hc : (Lit.int k c).wf = true) (hd : (Lit.int k d).wf = true) :
    Reads k (w.alloc (.cells #[.int k a, .int k b, .int k c, .int k d] e)) (some ⟨g, 0, none⟩) 4 [a, b, c, d] := by
  subst hg
  exact lit_reads k w [a, b, c, d] e (by simp) (by simp [ha, hb, hc, hd])

theorem works_k1 : ∀ W p q r s, Reads .i8 W p 2 [64, -64] → Reads .i64 W r 2 [65536, 32768] → Calls Try.prog 9 #[.slice p 2 q, .slice r 2 s] W fun e w' => e = .returned (.tuple #[.int .i64 32768, .int .i64 0]) ∧ ∃ m, w' = W.drewN m := by
  intro W p q r s h h'
  have := dot_call p 2 q _ r 2 s _ W h h'
  rwa [show (if (2 : Nat) = 2 then dotZ [64, -64] [65536, 32768] 6 else 0) = 32768 by decide +kernel, show (if (2 : Nat) = 2 then (0 : Int) else 21) = 0 from rfl] at this

theorem works_k2 : ∀ W p r, Reads .i8 W p 4 [64, 0, 0, 64] → Reads .i64 W r 2 [5, 7] → Calls Try.prog 13 #[.slice p 4 4, .int .i64 2, .slice r 2 2] W fun e w' => (∃ a c, e = .returned (.tuple #[.slice a 2 c, .int .i64 0]) ∧ Reads .i64 w' a 2 [5, 7]) ∧ Below W.heap.size W w' := by
  intro W p r h h'
  have := mat_fits p 4 4 _ 2 r 2 2 _ W h (by decide) h' (by decide) (by decide) (by decide)
  rwa [show (List.range 2).map (rowZ [64, 0, 0, 64] 2 [5, 7]) = [5, 7] by decide +kernel] at this

theorem works_k3 : ∀ W p q, Reads .i8 W p 1 [1] → Calls Try.prog 9 #[.slice p 1 q, .slice none 0 0] W fun e w' => e = .returned (.tuple #[.int .i64 0, .int .i64 21]) ∧ ∃ m, w' = W.drewN m := by
  intro W p q h
  exact dot_call p 1 q _ none 0 0 [] W h (Reads.nil _ _)

theorem works_k4 : ∀ W p q, Reads .i64 W p 1 [2] → Calls Try.prog 18 #[.slice p 1 q, .int .i64 98304] W fun e w' => (∃ a c, e = .returned (.slice a 1 c) ∧ Reads .i64 w' a 1 [3]) ∧ Below W.heap.size W w' := by
  intro W p q h
  have := scale_call p 1 q _ 98304 W h (by decide) (by decide)
  rwa [show ([2].map fun x => mulZ x 98304) = [3] by decide +kernel] at this

theorem works_call (w : World) : Calls Try.prog 20 #[] w fun e w' => e = .returned (.bool true) ∧ Below w.heap.size w w' := by
  have k1 := works_k1
  have k2 := works_k2
  have k3 := works_k3
  have k4 := works_k4
  have hb := Below.refl w.heap.size w
  go_enter Try.func20, Try.ntmps20
  go_wp2_with (first
    | (go_at_call 9; refine (k1 _ _ _ _ _ ((lit2 .i8 _ 38 _ (by simp) 64 (-64) (by decide) (by decide)).below (below_new (Below.refl _ _) _)) (lit2 .i64 _ 2 _ (by simp) 65536 32768 (by decide) (by decide))).mono ?_; rintro e W1 ⟨rfl, hq⟩; have hb1 := below_drew (below_new (below_new hb _) _) hq; clear hq k1)
    | (go_at_call 13; refine (k2 _ _ _ ((lit4 .i8 _ 38 _ (by simp) 64 0 0 64 (by decide) (by decide) (by decide) (by decide)).below (below_new (Below.refl _ _) _)) (lit2 .i64 _ 2 _ (by simp) 5 7 (by decide) (by decide))).mono ?_; rintro e W2 ⟨⟨p2, q2, rfl, r2⟩, hb2⟩; replace hb2 := below_then (below_new (below_new hb1 _) _) hb2)
    | (go_at_call 9; refine (k3 _ _ _ (lit1 .i8 _ 38 _ (by simp) 1 (by decide))).mono ?_; rintro e W3 ⟨rfl, hq⟩; have hb3 := below_drew (below_new hb2 _) hq; have r3 := r2.below (below_drew (below_new (Below.refl _ _) _) hq); clear hq r2)
    | (go_at_call 18; refine (k4 _ _ _ (lit1 .i64 _ 2 _ (by simp) 2 (by decide))).mono ?_; rintro e W4 ⟨⟨p4, q4, rfl, r4⟩, hb4⟩; have r5 := r3.below (below_then (below_new (Below.refl _ _) _) hb4); replace hb4 := below_then (below_new hb3 _) hb4; clear r3)
    | (go_at_call 15; refine (same_call _ _ _ [5, 7] _ _ _ _ (r5.below (below_new (Below.refl _ _) _)) (lit2 .i64 _ 2 _ (by simp) 5 7 (by decide) (by decide))).mono ?_; rintro e W5 ⟨rfl, hq⟩; have hb5 := below_drew (below_new hb4 _) hq; have r6 := r4.below (below_drew (below_new (Below.refl _ _) _) hq); clear hq r4 r5)
    | (go_at_call 15; refine (same_call _ _ _ [3] _ _ _ _ (r6.below (below_new (Below.refl _ _) _)) (lit1 .i64 _ 2 _ (by simp) 3 (by decide))).mono ?_; rintro e W6 ⟨rfl, hq⟩; have hb6 := below_drew (below_new hb5 _) hq; clear hq r6))
  go_ret
  exact ⟨rfl, by assumption⟩


end Go.Proofs.Ytnanhiifeihaaaa
