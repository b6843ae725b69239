/- Rows of texts beside the shelf. -/
import Derived.Test.YtfggkkhehaafcaaRows
import Derived.Test.YtfggkkhehaafcaaPages
import Derived.Test.YtfggkkhehaafcaaView
import Derived.Test.YtfggkkhehaafcaaOwn
import Derived.Test.YtfggkkhehaafcaaReadsP
import Derived.Test.YtfggkkhehaafcaaReadsQ
import Derived.Test.YtfggkkhehaafcaaLeast
import Derived.Test.YtfggkkhehaafcaaLays
import Derived.Test.YtfggkkhehaafcaaNews
import Derived.Test.YtfggkkhehaafcaaGoods
import Derived.Test.YtfggkkhehaafcaaPlain
import Derived.Test.YtfggkkhehaafcaaLies
import Derived.Test.YtfggkkhehaafcaaCopies
import Derived.Test.YtfggkkhehaafcaaNeeds
import Derived.Test.YtfggkkhehaafcaaFetch
import Derived.Test.YtfggkkhehaafcaaRelease
import Derived.Test.YtfggkkhehaafcaaMapV
import Derived.Test.YtfggkkhehaafcaaShPlain
import Derived.Test.YtfggkkhehaafcaaShActs
import Derived.Test.YtfggkkhehaafcaaShAt
import Derived.Test.YtfggkkhehaafcaaIndex
import Derived.Test.YtfggkkhehaafcaaShRd
import Derived.Test.YtfggkkhehaafcaaShTurn
import Derived.Test.YtfggkkhehaafcaaShRoom
import Derived.Test.YtfggkkhehaafcaaShIn
import Derived.Test.YtfggkkhehaafcaaWorksK
import Derived.Test.YtfggkkhehaafcaaOldK
import Derived.WalkKit
import Derived.ProofKit
import Derived.OpenShut
import Derived.Below
import Derived.WalkLawsBesides
import Derived.Deep.QuietTactic
import Derived.BigQuiet
import Derived.Maps.OwnSet
namespace Go.Proofs.Ytfggkkhehaafcaa
open Go.ChangeShapes Go.WideShapes Go.ChangeAt Go.RowKit
set_option linter.unusedVariables false
set_option linter.unusedSimpArgs false

theorem restN (x : Int) (n : Nat) (hn : 0 < n) : ∃ M : Nat, M < n ∧ (IntKind.u64.wrap x).tmod (n : Int) = (M : Int) ∧ IntKind.u64.wrap x % (n : Int) = (M : Int) := by
  have b : 0 ≤ IntKind.u64.wrap x := by rw [IntKind.wrap_u64]; omega
  generalize IntKind.u64.wrap x = U at *
  have h0 := Int.emod_nonneg U (show (n : Int) ≠ 0 by omega)
  have h1 := Int.emod_lt_of_pos U (show 0 < (n : Int) by omega)
  refine ⟨(U % (n : Int)).toNat, by omega, ?_, by omega⟩
  rw [Int.tmod_eq_emod_of_nonneg b]
  omega

/-- a row of texts that is not the shelf's order of pinning -/
def Ap9 (w : World) (ra a : Option Addr) : Prop := ∀ k, blkOf ra k → ¬ blkOf a k ∧ ∃ m, Row 9 w k m
theorem Ap9.below {w w' : World} {ra a : Option Addr} (h : Ap9 w ra a) (hb : Below w.heap.size w w') : Ap9 w' ra a := fun k hk => by
  obtain ⟨h1, m, r⟩ := h k hk
  exact ⟨h1, m, r.of_block (hb.block k r.lt)⟩
theorem Ap9.drewN {w : World} {ra a : Option Addr} (h : Ap9 w ra a) (m : Nat) : Ap9 (w.drewN m) ra a := h
/-- it is as it was behind whatever the shelf does -/
theorem Ap9.kept {B : Nat} {w w' : World} {x mb b g : Nat} {ra a a' : Option Addr} {s : Pl} {L : List It} {cap : Nat} (h : Ap9 w ra a) (hs : Sf B w x mb b g a s L cap) (o : OffS B TS (SS mb a) w w') (ha : ∀ k, blkOf a' k → blkOf a k ∨ w.heap.size ≤ k) : Ap9 w' ra a' ∧ ∀ k, blkOf ra k → w'.heap[k]? = w.heap[k]? := by
  have key : ∀ k, blkOf ra k → w'.heap[k]? = w.heap[k]? := fun k hk => by
    obtain ⟨h1, m, r⟩ := h k hk
    exact o.row r rfl (fun hS => by
      rcases hS with rfl | hb
      · have := hs.mapLt.2.2
        rw [r.type] at this
        cases this
      · exact h1 hb)
  refine ⟨fun k hk => ?_, key⟩
  obtain ⟨h1, m, r⟩ := h k hk
  refine ⟨fun hb => ?_, m, r.of_block (key k hk)⟩
  rcases ha k hb with e | e
  · exact h1 e
  · have := r.lt
    omega
theorem ReadT.kept {w w' : World} {a : Option Addr} {n : Nat} {ts : List ByteArray} (h : ReadT w a n ts) (hk : ∀ k, blkOf a k → w'.heap[k]? = w.heap[k]?) : ReadT w' a n ts :=
  ⟨h.len, h.max, h.some_, fun x hx i hi => by
    have e := hk x.block ⟨x, hx, rfl⟩
    exact (World.cell?_of_block (w := w) (show w'.heap[(x.add i).block]? = w.heap[(x.add i).block]? by rw [add_block]; exact e)).trans (h.cell x hx i hi)⟩
theorem ReadT.drewN {w : World} {a : Option Addr} {n : Nat} {ts : List ByteArray} (h : ReadT w a n ts) (m : Nat) : ReadT (w.drewN m) a n ts := h.kept (fun _ _ => rfl)
/-- all texts from a place on -/
theorem ReadT.drop {w : World} {y : Addr} {n : Nat} {ts : List ByteArray} (h : ReadT w (some y) n ts) (p : Nat) (hp : p ≤ n) : ReadT w (some (y.add p)) (n - p) (ts.drop p) := by
  have hl := h.len
  refine ⟨by rw [List.length_drop, hl], by have := h.max; omega, fun _ => ⟨_, rfl⟩, fun x hx i hi => ?_⟩
  obtain rfl := Option.some.inj hx
  rw [Addr.add_add, h.cell y rfl (p + i) (by omega)]
  simp [List.getD]

/-- a literal of texts -/
theorem lit5 (w : World) : ReadT (w.alloc (.cells (N5.map Value.string).toArray 9)) (some ⟨w.heap.size, 0, none⟩) 5 N5 ∧ Row 9 (w.alloc (.cells (N5.map Value.string).toArray 9)) w.heap.size 5 := by
  have hn := heap_alloc_new w (.cells (N5.map Value.string).toArray 9)
  refine ⟨⟨rfl, by decide, fun _ => ⟨_, rfl⟩, fun x hx i hi => ?_⟩, ⟨_, hn, rfl⟩⟩
  obtain rfl := Option.some.inj hx
  rw [add_off]
  unfold World.cell?
  rw [hn]
  simp only [List.getElem?_toArray]
  exact texts_at N5 i hi
theorem N5_small : ∀ n ∈ N5, n.size ≤ maxLen := by decide
theorem N5_mem {i : Nat} (h : i < 5) : N5.getD i noText ∈ N5 := by
  have : i < N5.length := h
  simp [List.getD, this]

/-- between two turns -/
structure OldI (B : Nat) (w : World) (x mb b g : Nat) (Y : Addr) (cap : Nat) (oa : Option Addr) (ol : Nat) (wr : World) : Prop where
  st : ∃ a s L ord, Sf B wr x mb b g a s L cap ∧ O5 s L ord ∧ ReadT wr oa ol ord ∧ Ap9 wr oa a ∧ Ap9 wr (some Y) a
  nm : ReadT wr (some Y) 5 N5
  bel : Below B w wr

end Go.Proofs.Ytfggkkhehaafcaa
