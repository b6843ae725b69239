/- What is flattened and shaped again is the model, list by list. -/
import Derived.Test.YtjbeloljbjfibaaRows
import Derived.Test.YtjbeloljbjfibaaLayer8
import Derived.Test.YtjbeloljbjfibaaConf
import Derived.Test.YtjbeloljbjfibaaBlank
import Derived.Test.YtjbeloljbjfibaaCfgRef
import Derived.Test.YtjbeloljbjfibaaSize
import Derived.Test.YtjbeloljbjfibaaSizes
import Derived.Test.YtjbeloljbjfibaaSteps
import Derived.Test.YtjbeloljbjfibaaClo54
import Derived.Test.YtjbeloljbjfibaaFill
import Derived.Test.YtjbeloljbjfibaaMods
import Derived.Test.YtjbeloljbjfibaaFills
import Derived.Test.YtjbeloljbjfibaaShape
import Derived.Test.YtjbeloljbjfibaaShapes
import Derived.Test.YtjbeloljbjfibaaCheck
import Derived.Test.YtjbeloljbjfibaaChecks
import Derived.Test.YtjbeloljbjfibaaDims
import Derived.Test.YtjbeloljbjfibaaFlat
import Derived.Test.YtjbeloljbjfibaaNumbers
import Derived.Test.YtjbeloljbjfibaaPrefix
import Derived.Test.YtjbeloljbjfibaaBody
import Derived.Test.YtjbeloljbjfibaaDecode
import Derived.WalkKit
import Derived.ProofKit
import Derived.OpenShut
import Derived.Below
import Derived.WalkLawsBesides
import Derived.Deep.QuietTactic
import Derived.BigQuiet
import Derived.Deep.RegionWith
import Derived.Deep.RegionHeld3
import Derived.Deep.OwnRows
import Derived.Deep.Slices
import Derived.Test.YtjbeloljbjfibaaTrips
import Derived.Test.YtjbeloljbjfibaaInv
import Derived.Test.YtjbeloljbjfibaaBuild
import Derived.Test.YtjbeloljbjfibaaTypedC
import Derived.Test.YtjbeloljbjfibaaEqWorks
import Derived.Test.YtjbeloljbjfibaaCuts
import Derived.Test.YtjbeloljbjfibaaSameLM
import Derived.Test.YtjbeloljbjfibaaOwns
namespace Go.Proofs.Ytjbeloljbjfibaa
open Go.ChangeShapes Go.WideShapes Go.ChangeAt Go.RowKit
set_option linter.unusedVariables false

/-- two models that hold the same lists -/
structure Agree (m m' : ModV) : Prop where
  e : m.e = m'.e
  nm : m.nm = m'.nm
  o : m.o = m'.o
  ln : m.ln = m'.ln
  un : ∀ i, i < m.ln → m.un i = m'.un i
  dn : ∀ i, i < m.ln → m.dn i = m'.dn i
  f : ∀ i, i < m.ln → ∀ j, j < 7 → m.f i j = m'.f i j
  u : ∀ i, i < m.ln → ∀ j, j < m.un i → m.u i j = m'.u i j
  d : ∀ i, i < m.ln → ∀ j, j < m.dn i → m.d i j = m'.d i j

theorem ModAt.congr {w : World} {E L N O : SL} {Y U D : Nat → Nat → SL} {m m' : ModV} (h : ModAt w E L N O Y U D m) (a : Agree m m') : ModAt w E L N O Y U D m' := by
  refine ⟨a.e ▸ h.e, a.nm ▸ h.nm, a.o ▸ h.o, a.ln ▸ h.len, a.ln ▸ h.some_, h.nil, h.cap, fun x hx i hi j hj => h.cell x hx i (by rw [a.ln]; exact hi) j hj, fun i hi => ?_⟩
  have hi' : i < m.ln := by rw [a.ln]; exact hi
  have y := h.lay i hi'
  refine ⟨fun j hj => a.f i hi' j hj ▸ y.f j hj, ?_, ?_⟩
  · have := y.u.congr (a.u i hi')
    rw [a.un i hi'] at this
    exact this
  · have := y.d.congr (a.d i hi')
    rw [a.dn i hi'] at this
    exact this

theorem seg_flat {S : Nat → List Int} {cnt : Nat → Nat} {T : Nat} (h : ∀ k, k < T → (S k).length = cnt k) {k : Nat} (hk : k < T) : seg cnt (flatTo S T) k = S k := by
  induction T with
  | zero => omega
  | succ T ih =>
    have hl := flat_len S cnt T (fun j hj => h j (by omega)) T (Nat.le_refl _)
    unfold seg
    rw [flat_succ]
    by_cases e : k = T
    · subst e
      rw [List.drop_append_of_le_length (by omega), List.drop_eq_nil_of_le (by omega), List.nil_append, List.take_of_length_le (by rw [h k (by omega)]; exact Nat.le_refl _)]
    · have hk' : k < T := by omega
      have := offs_mono cnt (show k + 1 ≤ T by omega)
      have e1 : offs cnt (k + 1) = offs cnt k + cnt k := rfl
      rw [List.drop_append_of_le_length (by omega), List.take_append_of_le_length (by rw [List.length_drop]; omega)]
      exact ih (fun j hj => h j (by omega)) hk'

theorem flat_shape {d h l v u x t n : Int} {m : ModV} (hz : checkB d h l v u x t n m = 0) : Agree (shapeV d l v u x (flatV x l m)) m := by
  obtain ⟨ok, hln, hun, hlen⟩ := checked hz
  have sg : ∀ k, k < 1 + l.toNat * pl (netsN x) + 2 → seg (cntOf d l v u x) (flatV x l m) k = seqOf m (netsN x) k := fun k hk => seg_flat hlen hk
  have ip : ∀ i r, i < l.toNat → r < pl (netsN x) → 1 + i * pl (netsN x) + r < 1 + l.toNat * pl (netsN x) + 2 := fun i r hi hr => by
    have : (i + 1) * pl (netsN x) ≤ l.toNat * pl (netsN x) := Nat.mul_le_mul_right _ (by omega)
    rw [Nat.add_mul] at this
    omega
  have p7 : 7 ≤ pl (netsN x) := by unfold pl; omega
  refine ⟨?_, ?_, ?_, hln.symm, fun i hi => ?_, fun i hi => ?_, fun i hi j hj => ?_, fun i hi j hj => ?_, fun i hi j hj => ?_⟩
  · exact sg 0 (by omega)
  · show seg _ _ (1 + l.toNat * pl (netsN x)) = _
    rw [sg _ (by omega), ← hln]
    exact seqOf_norm m _
  · show seg _ _ (1 + l.toNat * pl (netsN x) + 1) = _
    rw [sg _ (by omega), ← hln]
    exact seqOf_out m _
  · have hi' : i < l.toNat := hi
    exact (hun i (by omega)).1.symm
  · have hi' : i < l.toNat := hi
    exact (hun i (by omega)).2.symm
  · have hi' : i < l.toNat := hi
    show seg _ _ (1 + i * pl (netsN x) + j) = _
    rw [sg _ (ip i j hi' (by omega))]
    exact seqOf_list m _ i j (by omega) hj
  · have hi' : i < l.toNat := hi
    have hj' : j < netsN x := hj
    show seg _ _ (1 + i * pl (netsN x) + 7 + 2 * j) = _
    have q := ip i (7 + 2 * j) hi' (by unfold pl; omega)
    rw [sg _ (by omega)]
    exact seqOf_up m _ i j (by omega) hj'
  · have hi' : i < l.toNat := hi
    have hj' : j < netsN x := hj
    show seg _ _ (1 + i * pl (netsN x) + 7 + 2 * j + 1) = _
    have q := ip i (7 + 2 * j + 1) hi' (by unfold pl; omega)
    rw [sg _ (by omega)]
    exact seqOf_down m _ i j (by omega) hj'

theorem flat_wf {d h l v u x t n : Int} {w : World} {E L N O : SL} {Y U D : Nat → Nat → SL} {m : ModV} (hM : ModAt w E L N O Y U D m) (hz : checkB d h l v u x t n m = 0) : ∀ z ∈ flatV x l m, (Lit.int .i8 z).wf = true := by
  obtain ⟨ok, hln, hun, hlen⟩ := checked hz
  intro z hzz
  obtain ⟨k, hk, hm⟩ := List.mem_flatMap.1 hzz
  refine hM.wf (ne := netsN x) (fun i hi => hun i hi) k ?_ z hm
  rw [hln]
  exact List.mem_range.1 hk

end Go.Proofs.Ytjbeloljbjfibaa
