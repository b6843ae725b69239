/- A text as a row of bytes of the call's own, and one byte of it set. -/
import Derived.Test.YtjbeloljbjfibaaRows
import Derived.Test.YtjbeloljbjfibaaView
import Derived.Test.YtjbeloljbjfibaaOwn
import Derived.Test.YtjbeloljbjfibaaTexts
import Derived.Test.YtjbeloljbjfibaaSums
import Derived.Test.YtjbeloljbjfibaaSeals
import Derived.Test.YtjbeloljbjfibaaOpens
import Derived.Test.YtjbeloljbjfibaaChange
import Derived.WalkKit
import Derived.ProofKit
import Derived.OpenShut
import Derived.Below
namespace Go.Proofs.Ytjbeloljbjfibaa
open Go.ChangeShapes Go.WideShapes Go.ChangeAt Go.RowKit
set_option linter.unusedVariables false

def bytesL (s : ByteArray) : List Int := (List.range s.size).map fun j => (byteZ s j : Int)
theorem bytesL_length (s : ByteArray) : (bytesL s).length = s.size := by simp [bytesL]
theorem bytesL_at (s : ByteArray) (j : Nat) (h : j < s.size) : (bytesL s).getD j 0 = byteZ s j := by simp [bytesL, List.getD, h]

theorem bytes_of (s : ByteArray) (hs : s.size ≤ 9223372036854775807) (w : World) : ∃ c W, (convert 9 49 (.string s)).run Try.prog w = .ok (.slice (some ⟨w.heap.size, 0, none⟩) s.size c) W ∧ s.size ≤ c ∧ Below w.heap.size w W ∧
    Reads .u8 W (some ⟨w.heap.size, 0, none⟩) s.size (bytesL s) ∧ ∀ j, j < s.size → W.frozen? ⟨w.heap.size, j, none⟩ = false := by
  refine ⟨_, _, run_bytes_of_string w 9 49 5 s Try.underlying9 Try.underlying49 Try.underlying5, grownCap_ge _ _ _ _, below_new (Below.refl _ _).drew _, ?_, ?_⟩
  · refine Reads.of_row (bytesL_length s) hs (fun z hz => ?_) fun i hi => ?_
    · obtain ⟨j, _, rfl⟩ := List.mem_map.1 hz
      have := byteZ_lt s j
      exact wf_u8 (by omega) (by omega)
    · have e : (⟨w.heap.size, 0, none⟩ : Addr).add i = ⟨w.heap.size, i, none⟩ := by by_cases h : i = 0 <;> simp [Addr.add, h]
      rw [e, bytesL_at s i hi]
      have := World.cell?_alloc_mark w.drew (bytesRow s (grownCap w s.size 0 5)) 5 ((bytesRow s (grownCap w s.size 0 5)).size, (bytesRow s (grownCap w s.size 0 5)).size + 1) i
      refine this.trans ?_
      rw [bytesRow_at s _ i hi]
      congr 2
      rw [← byteZ_at s i hi]
      rfl
  · intro j hj
    have := World.frozen?_alloc_mark w.drew (bytesRow s (grownCap w s.size 0 5)) 5 (bytesRow s (grownCap w s.size 0 5)).size ((bytesRow s (grownCap w s.size 0 5)).size + 1) j
    refine this.trans ?_
    have hz : (bytesRow s (grownCap w s.size 0 5)).size ≥ s.size := by
      unfold bytesRow
      rw [Array.size_append, Array.size_map]
      have : s.data.size = s.size := rfl
      omega
    simp
    omega

theorem reads_set {w : World} {g n k : Nat} {zs : List Int} {v : Int} (h : Reads .u8 w (some ⟨g, 0, none⟩) n zs) (hk : k < n) (hv : (Lit.int .u8 v).wf = true) : Reads .u8 (w.setCell ⟨g, k, none⟩ (.int .u8 v)) (some ⟨g, 0, none⟩) n (zs.set k v) := by
  have ad : ∀ i, (⟨g, 0, none⟩ : Addr).add i = ⟨g, i, none⟩ := fun i => by by_cases h : i = 0 <;> simp [Addr.add, h]
  have hl := h.len
  refine Reads.of_row (by simp [hl]) h.max (fun z hz => ?_) fun i hi => ?_
  · rcases List.mem_or_eq_of_mem_set hz with h1 | h1
    · exact h.wf_mem z h1
    · subst h1; exact hv
  · have ck := h.cell _ rfl i hi
    rw [ad] at ck ⊢
    by_cases e : k = i
    · subst e
      rw [World.cell?_setCell_same _ _ _ ck]
      simp [List.getD, hl, hk]
    · rw [World.cell?_setCell_other _ _ _ _ (by simp_all), ck]
      simp [List.getD, List.getElem?_set_ne e]

end Go.Proofs.Ytjbeloljbjfibaa
