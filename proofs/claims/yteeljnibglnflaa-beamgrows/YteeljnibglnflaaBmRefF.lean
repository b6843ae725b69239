/- What the document answers at last. -/
import Derived.Test.YteeljnibglnflaaRows
import Derived.Test.YteeljnibglnflaaView
import Derived.Test.YteeljnibglnflaaOwn
import Derived.Test.YteeljnibglnflaaWhere
import Derived.Test.YteeljnibglnflaaSteps
import Derived.Test.YteeljnibglnflaaRefTop
import Derived.Test.YteeljnibglnflaaBmZ
import Derived.Test.YteeljnibglnflaaBmAt
import Derived.Test.YteeljnibglnflaaBmWhole
import Derived.Test.YteeljnibglnflaaBmGI
import Derived.Test.YteeljnibglnflaaBmOrdZ
import Derived.Test.YteeljnibglnflaaBmRefA
import Derived.Test.YteeljnibglnflaaBmRefZ
import Derived.WalkKit
import Derived.ProofKit
import Derived.OpenShut
import Derived.WalkLawsBesides
import Derived.Below
import Derived.Deep.QuietTactic
import Derived.BigQuiet
import Derived.Laws.AppendOwnNone
namespace Go.Proofs.Yteeljnibglnflaa
set_option maxRecDepth 20000
open Go.ChangeShapes Go.WideShapes Go.ChangeAt Go.RowKit
set_option linter.unusedVariables false
set_option linter.unusedSimpArgs false

theorem ref_ans {w W : World} {vo vp vs : Value} {Q k3 : Nat} {A2 : Nat → Option Addr} {C2 : Nat → Nat} {LO : Nat → Bm} {FO : Nat → Int} (h : RA w W vo vp vs Q Q k3 A2 C2 LO FO) {L : Nat → Bm} {n : Nat} {R : Nat → List Int} {m : Nat} {width len stop : Int} {G : List Cd} (hE : growE L n R m width = 0) (hG : growL L n R m width len stop = G) (hl : G.length = Q) (hLO : ∀ r, r < Q → LO r = growB L G r) (hFO : ∀ r, r < Q → FO r = ((G.getD r c0).p : Int)) (hp : ∀ r, r < Q → (G.getD r c0).p ≤ 1000) :
    ∃ a c b d, vo = .slice a Q c ∧ vp = .slice b Q d ∧ RefAns W (.returned (.tuple #[.slice a Q c, .slice b Q d, .int .i64 0])) L n R m width len stop := by
  obtain ⟨a, c, rfl, hB, -, -⟩ := h.o1.at_
  obtain ⟨b, d, rfl, hR⟩ := own_reads (k := .i64) (zs := growP G) h.o2 (by simp [growP, hl]) (fun z hz => by
    obtain ⟨x, hx, rfl⟩ := List.mem_map.1 hz
    obtain ⟨i, hi, rfl⟩ := List.getElem_of_mem hx
    have := hp i (by omega)
    rw [show G.getD i c0 = G[i] by simp [List.getD, hi]] at this
    exact WalkArith.wf_i64 ⟨by omega, by omega⟩) (fun j hj => by rw [gath_at _ _ _ _ hj, hFO j hj, growP_at G (by omega)])
  refine ⟨a, c, b, d, rfl, rfl, ?_⟩
  unfold RefAns
  rw [hG, hE, hl]
  exact ⟨a, b, c, d, A2, C2, rfl, hB.congr (fun _ _ => rfl) (fun _ _ => rfl) hLO, hR⟩

/-- a box's first cell written over -/
theorem box_set {wr W5 w7 : World} {AT : Option Addr} {TN CT : Nat} {SV : Int} {FV : Bool} (e5 : wr.alloc (.cells #[.slice AT TN CT, .int .i64 SV, .bool FV] 42) = W5) (hb : Below W5.heap.size W5 w7) {v2 : Value} {TT : List Int} (hTT : TT.length = TN) (hw : ∀ z ∈ TT, (Lit.int .i64 z).wf = true) (ho : w7.ownsRow W5.heap.size 3 1 v2 TN (TT.map (Value.int .i64))) :
    ∃ a2 c2, v2 = .slice a2 TN c2 ∧ w7.cell? ⟨wr.heap.size, 0, none⟩ = some (.slice AT TN CT) ∧ w7.frozen? ⟨wr.heap.size, 0, none⟩ = false ∧ ∃ W8, w7.setCell ⟨wr.heap.size, 0, none⟩ (.slice a2 TN c2) = W8 ∧ W8.cell? ⟨wr.heap.size, 0, none⟩ = some (.slice a2 TN c2) ∧ W8.cell? ⟨wr.heap.size, 1, none⟩ = some (.int .i64 SV) ∧ W8.cell? ⟨wr.heap.size, 2, none⟩ = some (.bool FV) ∧ (Below wr.heap.size wr W8 ∧ Reads .i64 W8 a2 TN TT ∧ (a2 = none → c2 = 0) ∧ ∀ x, a2 = some x → wr.heap.size ≤ x.block) := by
  have s5 : W5.heap.size = wr.heap.size + 1 := by rw [← e5]; simp
  have b5 : Below wr.heap.size wr W5 := by rw [← e5]; exact below_new (Below.refl _ _) _
  have hp : w7.heap[wr.heap.size]? = some (.cells #[.slice AT TN CT, .int .i64 SV, .bool FV] 42 (0, 0)) := by
    refine (hb.block wr.heap.size (by omega)).trans ?_
    rw [← e5]
    exact heap_alloc_new wr _
  obtain ⟨a2, c2, rfl, rd⟩ := own_reads (k := .i64) (zs := TT) ho hTT hw (fun j hj => copy_at .i64 TT j (by omega))
  have hge : ∀ x, a2 = some x → W5.heap.size ≤ x.block := fun x hx => by
    subst hx
    exact (ho.lt x.block rfl).1
  have k0 : w7.cell? ⟨wr.heap.size, 0, none⟩ = some (.slice AT TN CT) := by unfold World.cell?; rw [hp]; rfl
  have k1 : w7.cell? ⟨wr.heap.size, 1, none⟩ = some (.int .i64 SV) := by unfold World.cell?; rw [hp]; rfl
  have k2 : w7.cell? ⟨wr.heap.size, 2, none⟩ = some (.bool FV) := by unfold World.cell?; rw [hp]; rfl
  refine ⟨a2, c2, rfl, k0, by unfold World.frozen?; rw [hp]; rfl, _, rfl, ?_, ?_, ?_, ?_, ?_, own_none ho, fun x hx => by have := hge x hx; omega⟩
  · exact World.cell?_setCell_same _ _ _ k0
  · rw [World.cell?_setCell_other _ _ _ _ (fun e => by have := congrArg Addr.off e; simp at this)]
    exact k1
  · rw [World.cell?_setCell_other _ _ _ _ (fun e => by have := congrArg Addr.off e; simp at this)]
    exact k2
  · exact (below_then b5 hb).setCell (by show wr.heap.size ≤ wr.heap.size; exact Nat.le_refl _) _
  · exact reads_set rd _ _ (fun x hx => by have := hge x hx; show x.block ≠ wr.heap.size; omega)

end Go.Proofs.Yteeljnibglnflaa
