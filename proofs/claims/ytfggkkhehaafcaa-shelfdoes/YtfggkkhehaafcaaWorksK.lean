/- The shelf's own example: its values. -/
import Derived.Test.YtfggkkhehaafcaaRows
import Derived.Test.YtfggkkhehaafcaaPages
import Derived.Test.YtfggkkhehaafcaaView
import Derived.Test.YtfggkkhehaafcaaOwn
import Derived.Test.YtfggkkhehaafcaaReadsP
import Derived.Test.YtfggkkhehaafcaaReadsQ
import Derived.Test.YtfggkkhehaafcaaLeast
import Derived.Test.YtfggkkhehaafcaaLays
import Derived.Test.YtfggkkhehaafcaaNews
import Derived.Test.YtfggkkhehaafcaaGoods
import Derived.Test.YtfggkkhehaafcaaPlain
import Derived.Test.YtfggkkhehaafcaaLies
import Derived.Test.YtfggkkhehaafcaaCopies
import Derived.Test.YtfggkkhehaafcaaNeeds
import Derived.Test.YtfggkkhehaafcaaFetch
import Derived.Test.YtfggkkhehaafcaaRelease
import Derived.Test.YtfggkkhehaafcaaRefRel
import Derived.Test.YtfggkkhehaafcaaMapV
import Derived.Test.YtfggkkhehaafcaaShPlain
import Derived.Test.YtfggkkhehaafcaaShActs
import Derived.Test.YtfggkkhehaafcaaShAt
import Derived.Test.YtfggkkhehaafcaaShTurn
import Derived.Test.YtfggkkhehaafcaaShIn
import Derived.WalkKit
import Derived.ProofKit
import Derived.OpenShut
import Derived.Below
import Derived.WalkLawsBesides
import Derived.Deep.QuietTactic
import Derived.BigQuiet
import Derived.Maps.OwnSet
import Derived.OwnWalk
namespace Go.Proofs.Ytfggkkhehaafcaa
open Go.ChangeShapes Go.WideShapes Go.ChangeAt Go.RowKit
set_option linter.unusedVariables false
set_option linter.unusedSimpArgs false

theorem reads_block {k : IntKind} {w w' : World} {x : Addr} {n : Nat} {zs : List Int} (h : Reads k w (some x) n zs) (e : w'.heap[x.block]? = w.heap[x.block]?) : Reads k w' (some x) n zs :=
  ⟨h.len, h.max, h.wf, h.some_, fun y hy i hi => by
    obtain rfl := Option.some.inj hy
    exact (World.cell?_of_block (w := w) (show w'.heap[(x.add i).block]? = w.heap[(x.add i).block]? by rw [add_block]; exact e)).trans (h.cell x rfl i hi)⟩
theorem RowB.below {B : Nat} {w w' : World} {a : Option Addr} {l c : Nat} {zs : List Int} (h : RowB B w a l c zs) (o : Below w.heap.size w w') : RowB B w' a l c zs := h.off (T := fun _ => false) (B' := 0) (Off.of_below o) rfl

def tA : ByteArray := ⟨#[97]⟩
def tB : ByteArray := ⟨#[98]⟩
def tC : ByteArray := ⟨#[99]⟩
def W5 : List Int := [0, 0, 0, 5] ++ List.replicate 36 0
def W0 : List Int := List.replicate 40 0
def wL1 : List It := putL [] tA W5
def wL2 : List It := putL wL1 tB W0
def wQ3 : Pl × List It := pinP (newPl 2) wL2 tA
def wL4 : List It := unpL wQ3.2 tA
def wQ5 : Pl × List It := pinP wQ3.1 wL4 tB
theorem w_put1 : putE [] tA = 0 := by decide +kernel
theorem w_put2 : putE wL1 tB = 0 := by decide +kernel
theorem w_pin1 : pinE (newPl 2) wL2 tA = 0 := by decide +kernel
theorem w_pin2 : pinE wQ3.1 wQ3.2 tB = 6 := by decide +kernel
theorem w_read1 : readE wQ3.1 wQ3.2 tA = 0 := by decide +kernel
theorem w_read2 : readV wQ3.1 wQ3.2 tA = W5 := by decide +kernel
theorem w_unpin : unpE wQ3.2 tA = 0 := by decide +kernel
theorem w_pin3 : pinE wQ3.1 wL4 tB = 0 := by decide +kernel
theorem w_read3 : readE wQ5.1 wQ5.2 tA = 27 := by decide +kernel
theorem w_names : names wQ5.2 = [tB] := by decide +kernel
theorem w_pins1 : pinsZ wQ5.2 tB = 1 := by decide +kernel
theorem w_pins2 : pinsZ wQ5.2 tC = -1 := by decide +kernel
theorem w_small : tA.size ≤ maxLen ∧ tB.size ≤ maxLen ∧ tC.size ≤ maxLen := by decide

def z40 : Obj := .cells (madeCells #[.int .i8 0] 40) 59
theorem made40 (w : World) : (Instr.makeSlice 37 (.int .i64 40) (.int .i64 40)).run Try.prog w = .ok (.slice (some ⟨w.heap.size, 0, none⟩) 40 40) (w.alloc z40) :=
  run_make_row' 37 59 (.int .i8 0) 1 Try.underlying37 info59 rfl .i64 .i64 40 (by decide) (by decide) w
theorem z40_at (w : World) (j : Nat) (hj : j < 40) : (w.alloc z40).cell? ⟨w.heap.size, j, none⟩ = some (.int .i8 0) := by
  have e : (w.alloc z40).heap[w.heap.size]? = some z40 := heap_alloc_new w z40
  unfold World.cell?
  rw [e]
  simp [z40, madeCells, hj, Nat.mod_one]
theorem add_off (g i : Nat) : (⟨g, 0, none⟩ : Addr).add i = ⟨g, i, none⟩ := by unfold Addr.add; split <;> simp_all
theorem W0_at : ∀ i, i < 40 → W0.getD i 0 = 0 := by decide
theorem w0_reads (w : World) : Reads .i8 (w.alloc z40) (some ⟨w.heap.size, 0, none⟩) 40 W0 := by
  refine Reads.of_row rfl (by decide) (fun z hz => ?_) fun i hi => ?_
  · rw [List.eq_of_mem_replicate hz]; decide
  · rw [add_off, z40_at w i hi]
    rw [W0_at i hi]
theorem W5_at : ∀ i, i < 40 → i ≠ 3 → W5.getD i 0 = 0 := by decide
theorem w5_reads (w : World) : Reads .i8 ((w.alloc z40).setCell ⟨w.heap.size, 3, none⟩ (.int .i8 5)) (some ⟨w.heap.size, 0, none⟩) 40 W5 := by
  refine Reads.of_row rfl (by decide) (fun z hz => ?_) fun i hi => ?_
  · simp only [W5, List.mem_append, List.mem_replicate, List.mem_cons, List.not_mem_nil, or_false] at hz
    rcases hz with (rfl | rfl | rfl | rfl) | ⟨_, rfl⟩ <;> decide
  · rw [add_off]
    by_cases c : i = 3
    · subst c
      exact World.cell?_setCell_same _ _ _ (z40_at w 3 (by decide))
    · rw [World.cell?_setCell_other _ _ _ _ (by simp <;> omega), z40_at w i hi, W5_at i hi c]
theorem z40_row (w : World) : Row 59 (w.alloc z40) w.heap.size 40 := ⟨_, heap_alloc_new w z40, size_madeCells _ _⟩
theorem w5_row (w : World) : Row 59 ((w.alloc z40).setCell ⟨w.heap.size, 3, none⟩ (.int .i8 5)) w.heap.size 40 := (z40_row w).set _ _

/-- rows of weights are as they were behind whatever the shelf does -/
theorem OffS.reads8 {B : Nat} {w w' : World} {mb : Nat} {a : Option Addr} {x : Addr} {n m : Nat} {zs : List Int} {s : Pl} {L : List It} {cap x' b g : Nat} (o : OffS B TS (SS mb a) w w') (h : Sf B w x' mb b g a s L cap) (hr : Reads .i8 w (some x) n zs) (r : Row 59 w x.block m) : Reads .i8 w' (some x) n zs ∧ Row 59 w' x.block m := by
  have e := o.row r rfl (fun hS => by
    rcases hS with rfl | hb
    · have := h.mapLt.2.2
      rw [r.type] at this
      cases this
    · obtain ⟨_, _, m', r'⟩ := h.ordLt hb
      exact r'.ne r (by decide) rfl)
  exact ⟨reads_block hr e, r.of_block e⟩

theorem OffS.rowB {B B' : Nat} {w w' : World} {mb : Nat} {a : Option Addr} {ra : Option Addr} {l c : Nat} {zs : List Int} {s : Pl} {L : List It} {cap x' b g : Nat} (o : OffS B TS (SS mb a) w w') (h : Sf B w x' mb b g a s L cap) (hr : RowB B' w ra l c zs) : RowB B' w' ra l c zs :=
  hr.keep fun k hk => by
    obtain ⟨_, m, r⟩ := own_blk hr.own hk
    exact o.row r rfl (fun hS => by
      rcases hS with rfl | hb
      · have := h.mapLt.2.2
        rw [r.type] at this
        cases this
      · obtain ⟨_, _, m', r'⟩ := h.ordLt hb
        exact r'.ne r (by decide) rfl)
theorem RowT.below {B : Nat} {w w' : World} {a : Option Addr} {l c : Nat} {ts : List ByteArray} (h : RowT B w a l c ts) (o : Below w.heap.size w w') : RowT B w' a l c ts := h.keep fun k hk => by
  obtain ⟨_, m, r⟩ := own_blk h.own hk
  exact o.block k r.lt
theorem litT (w : World) (t : ByteArray) : ReadT (w.alloc (.cells #[.string t] 9)) (some ⟨w.heap.size, 0, none⟩) 1 [t] := by
  refine ⟨rfl, by decide, fun _ => ⟨_, rfl⟩, fun x hx i hi => ?_⟩
  obtain rfl := Option.some.inj hx
  obtain rfl : i = 0 := by omega
  have hn := heap_alloc_new w (.cells #[.string t] 9)
  rw [add_off]
  unfold World.cell?
  rw [hn]
  rfl

end Go.Proofs.Ytfggkkhehaafcaa
