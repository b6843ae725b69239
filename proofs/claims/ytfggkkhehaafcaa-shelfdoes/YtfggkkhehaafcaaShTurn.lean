/- A name leaves the order of pinning; weights are released. -/
import Derived.Test.YtfggkkhehaafcaaRows
import Derived.Test.YtfggkkhehaafcaaPages
import Derived.Test.YtfggkkhehaafcaaView
import Derived.Test.YtfggkkhehaafcaaOwn
import Derived.Test.YtfggkkhehaafcaaReadsP
import Derived.Test.YtfggkkhehaafcaaReadsQ
import Derived.Test.YtfggkkhehaafcaaLeast
import Derived.Test.YtfggkkhehaafcaaLays
import Derived.Test.YtfggkkhehaafcaaGoods
import Derived.Test.YtfggkkhehaafcaaMapV
import Derived.Test.YtfggkkhehaafcaaShPlain
import Derived.Test.YtfggkkhehaafcaaShActs
import Derived.Test.YtfggkkhehaafcaaShAt
import Derived.Test.YtfggkkhehaafcaaIndex
import Derived.Test.YtfggkkhehaafcaaDelete
import Derived.Test.YtfggkkhehaafcaaShRd
import Derived.WalkKit
import Derived.ProofKit
import Derived.OpenShut
import Derived.Below
import Derived.WalkLawsBesides
import Derived.Deep.QuietTactic
import Derived.BigQuiet
import Derived.Maps.OwnSet
namespace Go.Proofs.Ytfggkkhehaafcaa
open Go.ChangeShapes Go.WideShapes Go.ChangeAt Go.RowKit
set_option linter.unusedVariables false
set_option linter.unusedSimpArgs false

/-- what the program's shelf writes: its struct, its lots, its pool's -/
def TS (t : TypeId) : Bool := t == 65 || t == 93 || t == 71 || t == 80
/-- .. and its map and the row of the order of pinning -/
def SS (mb : Nat) (a : Option Addr) (k : Nat) : Prop := k = mb ∨ blkOf a k

theorem OffS.setT {B : Nat} {T : TypeId → Bool} {X : Nat → Prop} {t : TypeId} {w : World} {g m : Nat} (r : Row t w g m) (hB : B ≤ g) (hT : T t = true) (o : Nat) (v : Value) : OffS B T X w (w.setCell ⟨g, o, none⟩ v) := (Off.set r hB hT o v).toS X
theorem OffS.then_ {B : Nat} {T : TypeId → Bool} {X : Nat → Prop} {w w' w'' : World} (h : OffS B T X w w') (k : OffS B T X w' w'') : OffS B T X w w'' := h.trans k fun _ h => .inl h

/-- a name leaves the order of pinning -/
theorem leave_no {B : Nat} {w : World} {x mb b : Nat} {A : ByteArray → Nat} {a : Option Addr} {c : Nat} {O : List ByteArray} {L : List It} {N : Nat} (h : ShAt B w x mb b A a c O L N) (n : ByteArray) (hn : n ∉ O) (hl : O.length ≤ 1000) :
    Calls Try.prog 56 #[.pointer (some ⟨x, 0, none⟩), .string n] w fun e w' => e = .returned (.tuple #[]) ∧ w' = w := by
  have c2 := h.c2
  have k := index_no (c := c) h.ord.reads n (not_at hn) (by omega)
  obtain ⟨l, el⟩ : ∃ l, O.length = l := ⟨_, rfl⟩
  rw [el] at k c2
  clear h el hl hn
  go_enter Try.func56, Try.ntmps56
  go_wp2_with (first | (go_at_call 77; refine k.mono ?_; rintro e w' ⟨rfl, h1⟩; obtain rfl := h1.symm))
  refine bodyPost_end (results_none rfl _ _ _) rfl ?_
  exact ⟨rfl, rfl⟩
theorem PoolAt.offT {B B' : Nat} {T : TypeId → Bool} {w w' : World} {b g : Nat} {s : Pl} {a : Option Addr} {l c : Nat} {O : List ByteArray} (hp : PoolAt B w b g s) (o : OffS B' T (blkOf a) w w') (hr : RowT B w a l c O) (h1 : T 65 = false) (h2 : T 93 = false) : PoolAt B w' b g s :=
  hp.of_blocks (o.row hp.top h1 (fun hb => by obtain ⟨_, m, r⟩ := own_blk hr.own hb; exact r.ne hp.top (by decide) rfl)) (o.row hp.row h2 (fun hb => by obtain ⟨_, m, r⟩ := own_blk hr.own hb; exact r.ne hp.row (by decide) rfl))
def T71 (t : TypeId) : Bool := t == 71
theorem T71_TS (t : TypeId) (h : TS t = false) : T71 t = false := by
  simp only [TS, T71, Bool.or_eq_false_iff] at h ⊢
  exact h.1.2
theorem TP_TS (t : TypeId) (h : TS t = false) : TP t = false := by
  simp only [TS, TP, Bool.or_eq_false_iff] at h ⊢
  exact ⟨h.1.1.1, h.1.1.2⟩
theorem leave_yes {B : Nat} {w : World} {x mb b : Nat} {A : ByteArray → Nat} {a : Option Addr} {c : Nat} {O : List ByteArray} {L : List It} {N : Nat} (h : ShAt B w x mb b A a c O L N) (hd : O.Nodup) (n : ByteArray) (hn : n ∈ O) (hl : O.length ≤ 1000) :
    Calls Try.prog 56 #[.pointer (some ⟨x, 0, none⟩), .string n] w fun e w' => e = .returned (.tuple #[]) ∧ ShAt B w' x mb b A a c (O.filter fun u => !decide (u = n)) L N ∧ OffS B T71 (blkOf a) w w' := by
  have c2 := h.c2
  obtain ⟨K, hK, h2, h3⟩ := first_at hn
  have k := index_yes (c := c) h.ord.reads n K hK h3 h2 (by omega)
  obtain ⟨d, ed⟩ : ∃ d, O.length = d + 1 := ⟨O.length - 1, by omega⟩
  have hr := h.ord
  rw [ed] at k c2 hr hK
  have k2 := delete_call hr K (by omega) (by omega)
  rw [erase_at hd (by omega) h2] at k2
  have key : Hid (∀ w1, RowT B w1 a d c (O.filter fun u => !decide (u = n)) → OffS B (fun _ => false) (blkOf a) w w1 → Row 71 w1 x 3 ∧ (∃ v, w1.cell? ⟨x, 2, none⟩ = some v) ∧ ShAt B (w1.setCell ⟨x, 2, none⟩ (.slice a d c)) x mb b A a c (O.filter fun u => !decide (u = n)) L N ∧ OffS B T71 (blkOf a) w (w1.setCell ⟨x, 2, none⟩ (.slice a d c))) := hidden_ (fun w1 hr1 ho => by
    have hk : ∀ i t, i < w.heap.size → typeOf w i = some t → T14 t = true → w1.heap[i]? = w.heap[i]? := fun i t hi ht hT => ho.block i hi (.inr ⟨fun hb => (by
      obtain ⟨_, m, r⟩ := own_blk h.ord.own hb
      rw [r.type] at ht
      obtain rfl := Option.some.inj ht
      cases hT), fun _ _ => rfl⟩)
    have hm : w1.heap[mb]? = w.heap[mb]? := ho.block mb h.map.lt (.inr ⟨fun hb => (by
      obtain ⟨_, m, r⟩ := own_blk h.ord.own hb
      exact h.map.notRow r rfl), fun _ _ => rfl⟩)
    have eb := hk x 71 h.top.lt h.top.type rfl
    have top1 := h.top.of_block eb
    refine ⟨top1, ⟨_, (cell_of_block eb 2).trans h.c2⟩, ?_, (ho.mono (fun _ _ => rfl) (fun _ h => h)).then_ (OffS.setT top1 h.Bx rfl 2 _)⟩
    have kb : ∀ i, i ≠ x → (w1.setCell ⟨x, 2, none⟩ (.slice a d c)).heap[i]? = w1.heap[i]? := fun i hi => Below.heap_setCell w1 ⟨x, 2, none⟩ _ i hi
    have hl' := hr1.len
    have top2 := top1.set 2 (.slice a d c)
    refine ⟨h.Bx, h.Bm, top2, ?_, ?_, ?_, ?_, h.map.kept ((kb mb (h.map.notRow h.top).symm).trans hm), fun it hi => (h.lot it hi).keep fun i t hl ht hc => ?_, h.inj⟩
    · exact (World.cell?_setCell_other _ _ _ _ (by simp)).trans ((cell_of_block eb 0).trans h.c0)
    · exact (World.cell?_setCell_other _ _ _ _ (by simp)).trans ((cell_of_block eb 1).trans h.c1)
    · rw [hl']
      exact World.cell?_setCell_same _ _ _ ((cell_of_block eb 2).trans h.c2)
    · rw [hl']
      exact hr1.keep fun i hi => by
        obtain ⟨_, m, r⟩ := own_blk hr1.own hi
        exact kb i (r.ne top1 (by decide))
    · have hT : T14 t = true := by rcases hc with rfl | rfl | rfl <;> rfl
      rw [kb i (by rintro rfl; rw [h.top.type] at ht; obtain rfl := Option.some.inj ht; revert hc; decide)]
      exact hk i t hl ht hT)
  have hdm : d ≤ 1000 := by omega
  clear h hr hd hn ed hl h2 h3
  go_enter Try.func56, Try.ntmps56
  go_wp2_with (first
    | (go_at_call 77; refine k.mono ?_; rintro e w' ⟨rfl, h1⟩; obtain rfl := h1.symm)
    | (go_at_call 78; refine k2.mono ?_; rintro e w1 ⟨rfl, hr1, ho1⟩; obtain ⟨t1, ⟨v1, q1⟩, q2, q3⟩ := key.out w1 hr1 ho1; have f1 := t1.open_ 2; have HQ := hidden_ (And.intro q2 q3); clear q2 q3 hr1 ho1 key))
  refine bodyPost_end (results_none rfl _ _ _) rfl ?_
  exact ⟨rfl, HQ.out.1, HQ.out.2⟩

end Go.Proofs.Ytfggkkhehaafcaa
