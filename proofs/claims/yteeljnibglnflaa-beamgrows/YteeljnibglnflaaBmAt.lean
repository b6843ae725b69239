/- Beams as they lie in memory: rows of three cells each. -/
import Derived.Test.YteeljnibglnflaaRows
import Derived.Test.YteeljnibglnflaaView
import Derived.Test.YteeljnibglnflaaOwn
import Derived.Test.YteeljnibglnflaaGrids
import Derived.Test.YteeljnibglnflaaBmZ
import Derived.WalkKit
import Derived.ProofKit
import Derived.OpenShut
import Derived.Below
import Derived.Laws.OwnMore
import Derived.Maps.AppendAt
namespace Go.Proofs.Yteeljnibglnflaa
set_option maxRecDepth 20000
open Go.ChangeShapes Go.WideShapes Go.ChangeAt Go.RowKit
set_option linter.unusedVariables false

/-- the cells of n members, each of which has its own -/
def flat (F : Nat → List Value) (n : Nat) : List Value := (List.range n).flatMap F

theorem flat_succ (F : Nat → List Value) (n : Nat) : flat F (n + 1) = flat F n ++ F n := by simp [flat, List.range_succ]

theorem flat_len {F : Nat → List Value} {k : Nat} (h : ∀ r, (F r).length = k) (n : Nat) : (flat F n).length = n * k := by
  induction n with
  | zero => simp [flat]
  | succ n ih => rw [flat_succ, List.length_append, ih, h, Nat.add_mul, Nat.one_mul]

theorem flat_at {F : Nat → List Value} {k : Nat} (h : ∀ r, (F r).length = k) {n r f : Nat} (hr : r < n) (hf : f < k) : (flat F n)[r * k + f]? = (F r)[f]? := by
  induction n with
  | zero => omega
  | succ n ih =>
    rw [flat_succ]
    by_cases e : r = n
    · subst e
      rw [List.getElem?_append_right (by rw [flat_len h]; omega), flat_len h, show r * k + f - r * k = f by omega]
    · have h1 : r * k + f < (flat F n).length := by
        rw [flat_len h]
        have := Nat.mul_le_mul_right k (show r + 1 ≤ n by omega)
        rw [Nat.add_mul, Nat.one_mul] at this
        omega
      rw [List.getElem?_append_left h1]
      exact ih (by omega)

theorem flat_congr {F G : Nat → List Value} {n : Nat} (h : ∀ r, r < n → F r = G r) : flat F n = flat G n := by
  induction n with
  | zero => rfl
  | succ n ih => rw [flat_succ, flat_succ, ih (fun r hr => h r (by omega)), h n (by omega)]

/-- the cells of a beam -/
def bmC (A : Nat → Option Addr) (C : Nat → Nat) (L : Nat → Bm) (r : Nat) : List Value := [.slice (A r) (L r).t.length (C r), .int .i64 (L r).s, .bool (L r).f]

theorem bmC_len (A : Nat → Option Addr) (C : Nat → Nat) (L : Nat → Bm) (r : Nat) : (bmC A C L r).length = 3 := rfl

/-- n beams from a on -/
structure BmAt (w : World) (a : Option Addr) (n : Nat) (A : Nat → Option Addr) (C : Nat → Nat) (L : Nat → Bm) : Prop where
  max : n ≤ 9223372036854775807
  some_ : 0 < n → ∃ x, a = some x
  cell : ∀ x, a = some x → ∀ r, r < n → w.cell? (x.add (r * 3)) = some (.slice (A r) (L r).t.length (C r)) ∧ w.cell? ((x.add (r * 3)).add 1) = some (.int .i64 (L r).s) ∧ w.cell? ((x.add (r * 3)).add 2) = some (.bool (L r).f)
  row : ∀ r, r < n → Reads .i64 w (A r) (L r).t.length (L r).t
  nil : ∀ r, r < n → A r = none → C r = 0
  wf : ∀ r, r < n → (Lit.int .i64 (L r).s).wf = true

theorem BmAt.carry {w w' : World} {a : Option Addr} {n : Nat} {A : Nat → Option Addr} {C : Nat → Nat} {L : Nat → Bm} (h : BmAt w a n A C L) (hc : ∀ p v, w.cell? p = some v → w'.cell? p = some v) : BmAt w' a n A C L :=
  ⟨h.max, h.some_, fun x hx r hr => ⟨hc _ _ (h.cell x hx r hr).1, hc _ _ (h.cell x hx r hr).2.1, hc _ _ (h.cell x hx r hr).2.2⟩, fun r hr => (h.row r hr).carry hc, h.nil, h.wf⟩

theorem BmAt.below {w w' : World} {a : Option Addr} {n : Nat} {A : Nat → Option Addr} {C : Nat → Nat} {L : Nat → Bm} (h : BmAt w a n A C L) (hb : Below w.heap.size w w') : BmAt w' a n A C L :=
  h.carry fun p v hp => (hb.cell (World.block_lt_of_cell? w p hp)).trans hp

theorem BmAt.drewN {w : World} {a : Option Addr} {n : Nat} {A : Nat → Option Addr} {C : Nat → Nat} {L : Nat → Bm} (h : BmAt w a n A C L) (m : Nat) : BmAt (w.drewN m) a n A C L := h.carry fun _ _ hp => hp

theorem BmAt.less {w : World} {a : Option Addr} {n m : Nat} {A : Nat → Option Addr} {C : Nat → Nat} {L : Nat → Bm} (h : BmAt w a n A C L) (hm : m ≤ n) : BmAt w a m A C L :=
  ⟨Nat.le_trans hm h.max, fun h0 => h.some_ (by omega), fun x hx r hr => h.cell x hx r (by omega), fun r hr => h.row r (by omega), fun r hr => h.nil r (by omega), fun r hr => h.wf r (by omega)⟩

theorem BmAt.nil_ (w : World) (A : Nat → Option Addr) (C : Nat → Nat) (L : Nat → Bm) : BmAt w none 0 A C L :=
  ⟨Nat.zero_le _, (fun h => by omega), (fun x hx => by cases hx), (fun r hr => by omega), (fun r hr => by omega), (fun r hr => by omega)⟩

theorem BmAt.congr {w : World} {a : Option Addr} {n : Nat} {A A' : Nat → Option Addr} {C C' : Nat → Nat} {L L' : Nat → Bm} (h : BmAt w a n A C L) (hA : ∀ r, r < n → A r = A' r) (hC : ∀ r, r < n → C r = C' r) (hL : ∀ r, r < n → L r = L' r) : BmAt w a n A' C' L' :=
  ⟨h.max, h.some_, fun x hx r hr => by rw [← hA r hr, ← hC r hr, ← hL r hr]; exact h.cell x hx r hr, fun r hr => by rw [← hA r hr, ← hL r hr]; exact h.row r hr, fun r hr => by rw [← hA r hr, ← hC r hr]; exact h.nil r hr, fun r hr => by rw [← hL r hr]; exact h.wf r hr⟩

/-- a beam's three cells, its address under a name of its own -/
theorem BmAt.at3 {w : World} {x : Addr} {n : Nat} {A : Nat → Option Addr} {C : Nat → Nat} {L : Nat → Bm} (h : BmAt w (some x) n A C L) {r : Nat} (hr : r < n) :
    ∃ y, x.add (r * 3) = y ∧ w.cell? y = some (.slice (A r) (L r).t.length (C r)) ∧ w.cell? ⟨y.block, y.off + 1, none⟩ = some (.int .i64 (L r).s) ∧ w.cell? ⟨y.block, y.off + 2, none⟩ = some (.bool (L r).f) := by
  obtain ⟨d0, d1, d2⟩ := h.cell x rfl r hr
  obtain ⟨y, ey⟩ : ∃ y, x.add (r * 3) = y := ⟨_, rfl⟩
  rw [ey] at d0 d1 d2
  exact ⟨y, ey, d0, d1, d2⟩

theorem info40 : (Try.prog.info? 40).map (fun i => (i.zero, i.size, i.bytes)) = some (some (.agg #[.slice none 0 0, .int .i64 0, .bool false]), 3, 40) := by kernel_rfl
theorem info42 : (Try.prog.info? 42).map (fun i => (i.zero, i.size, i.bytes)) = some (some (.agg #[.slice none 0 0, .int .i64 0, .bool false]), 3, 40) := by kernel_rfl
theorem info55 : (Try.prog.info? 55).map (fun i => (i.zero, i.size, i.bytes)) = some (some (.agg #[.slice none 0 0, .int .i64 0, .bool false, .int .i64 0, .int .i64 0]), 5, 56) := by kernel_rfl

/-- beams in a row of the call's own -/
structure OwnBm (B : Nat) (w : World) (e : TypeId) (v : Value) (k : Nat) (A : Nat → Option Addr) (C : Nat → Nat) (L : Nat → Bm) : Prop where
  own : w.ownsRow B e 3 v k (flat (bmC A C L) k)
  row : ∀ r, r < k → Reads .i64 w (A r) (L r).t.length (L r).t
  apart : ∀ r, r < k → 0 < (L r).t.length → ∀ x, A r = some x → ∀ g, v.ownBlock = some g → x.block ≠ g
  nil : ∀ r, r < k → A r = none → C r = 0
  wf : ∀ r, r < k → (Lit.int .i64 (L r).s).wf = true

theorem OwnBm.start (B : Nat) (w : World) (e : TypeId) (A : Nat → Option Addr) (C : Nat → Nat) (L : Nat → Bm) : OwnBm B w e (.slice none 0 0) 0 A C L :=
  ⟨World.ownsRow_nil _ _ _ _, fun r h => by omega, fun r h => by omega, fun r h => by omega, fun r h => by omega⟩

theorem own_below3 {w w' : World} {B k : Nat} {e : TypeId} {v : Value} {n : Nat} {xs : List Value} (h : w.ownsRow B e k v n xs) (hb : Below w.heap.size w w') : w'.ownsRow B e k v n xs :=
  h.kept (row := none) ⟨hb.os, hb.tape, hb.output, hb.size, fun k hk _ => hb.block k hk⟩ (by
    cases v.ownBlock with
    | none => exact .inl rfl
    | some g => exact .inr (fun e => by cases e))

theorem OwnBm.below {B : Nat} {w w' : World} {e : TypeId} {v : Value} {k : Nat} {A : Nat → Option Addr} {C : Nat → Nat} {L : Nat → Bm} (h : OwnBm B w e v k A C L) (hb : Below w.heap.size w w') : OwnBm B w' e v k A C L :=
  ⟨own_below3 h.own hb, fun r hr => (h.row r hr).below hb, h.apart, h.nil, h.wf⟩

/-- a beam appended -/
theorem OwnBm.app {B : Nat} {w w' : World} {e : TypeId} {v v' : Value} {k : Nat} {A : Nat → Option Addr} {C : Nat → Nat} {L : Nat → Bm} (h : OwnBm B w e v k A C L) {p : Option Addr} {c : Nat} 
    (hr : Reads .i64 w p (L k).t.length (L k).t) (hp : 0 < (L k).t.length → ∀ x, p = some x → ∀ g, v.ownBlock = some g → x.block ≠ g) (hn : p = none → c = 0) (hw : (Lit.int .i64 (L k).s).wf = true)
    (ho : w'.ownsRow B e 3 v' (k + 1) (flat (bmC A C L) k ++ [.slice p (L k).t.length c, .int .i64 (L k).s, .bool (L k).f])) (hg : w.grownBy w' v.ownBlock) (hs : v'.ownBlock = v.ownBlock ∨ v'.ownBlock = some w.heap.size) :
    OwnBm B w' e v' (k + 1) (fun r => if r = k then p else A r) (fun r => if r = k then c else C r) L := by
  have cell_lt : ∀ (a : Option Addr) (zs : List Int), Reads .i64 w a zs.length zs → 0 < zs.length → ∀ x, a = some x → x.block < w.heap.size := fun a zs q h0 x hx => by
    have := World.block_lt_of_cell? w _ (q.cell x hx 0 h0)
    simpa [Addr.add] using this
  have new : ∀ (a : Option Addr) (zs : List Int), Reads .i64 w a zs.length zs → (0 < zs.length → ∀ x, a = some x → ∀ g, v.ownBlock = some g → x.block ≠ g) → (0 < zs.length → ∀ x, a = some x → ∀ g, v'.ownBlock = some g → x.block ≠ g) := fun a zs q hh h0 x hx g hg' => by
    rcases hs with e | e
    · exact hh h0 x hx g (e ▸ hg')
    · have h2 := cell_lt a zs q h0 x hx
      rw [e] at hg'
      obtain rfl := Option.some.inj hg'
      omega
  refine ⟨?_, fun r hr' => ?_, fun r hr' h0 x hx g hg' => ?_, fun r hr' hx => ?_, fun r hr' => ?_⟩
  · rw [flat_succ]
    rw [flat_congr (G := bmC A C L) (fun r hr => by unfold bmC; simp only [if_neg (show r ≠ k by omega)])]
    have e : bmC (fun r => if r = k then p else A r) (fun r => if r = k then c else C r) L k = [.slice p (L k).t.length c, .int .i64 (L k).s, .bool (L k).f] := by unfold bmC; simp only [if_true]
    rw [e]
    exact ho
  · by_cases e : r = k
    · subst e
      simp only [if_true]
      exact hr.grown hg hp
    · simp only [if_neg e]
      exact (h.row r (by omega)).grown hg (h.apart r (by omega))
  · by_cases e : r = k
    · subst e
      simp only [if_true] at hx
      exact new p _ hr hp h0 x hx g hg'
    · simp only [if_neg e] at hx
      exact new (A r) _ (h.row r (by omega)) (h.apart r (by omega)) h0 x hx g hg'
  · by_cases e : r = k
    · subst e
      simp only [if_true] at hx ⊢
      exact hn hx
    · simp only [if_neg e] at hx ⊢
      exact h.nil r (by omega) hx
  · by_cases e : r = k
    · subst e; exact hw
    · exact h.wf r (by omega)

/-- what was gathered are beams -/
theorem OwnBm.at_ {B : Nat} {w : World} {e : TypeId} {v : Value} {k : Nat} {A : Nat → Option Addr} {C : Nat → Nat} {L : Nat → Bm} (h : OwnBm B w e v k A C L) : ∃ a c, v = .slice a k c ∧ BmAt w a k A C L ∧ (a = none → c = 0) ∧ k ≤ c := by
  rcases h.own.2 with ⟨rfl, rfl⟩ | ⟨g, cap, cur, rfl, _, hg, hn, hm, hs, ht⟩
  · exact ⟨none, 0, rfl, BmAt.nil_ _ _ _ _, fun _ => rfl, Nat.le_refl _⟩
  · refine ⟨_, _, rfl, ⟨by unfold maxLen at hm; omega, fun _ => ⟨_, rfl⟩, fun x hx r hr => ?_, h.row, h.nil, h.wf⟩, (fun h => by cases h), hn⟩
    obtain rfl := Option.some.inj hx
    have c := fun f (hf : f < 3) u (hu : (bmC A C L r)[f]? = some u) => h.own.cells (g := g) rfl (r * 3 + f) u ((flat_at (bmC_len A C L) hr hf).trans hu)
    refine ⟨c 0 (by decide) _ rfl, ?_, ?_⟩
    · rw [Addr.add_add]; exact c 1 (by decide) _ rfl
    · rw [Addr.add_add]; exact c 2 (by decide) _ rfl

end Go.Proofs.Yteeljnibglnflaa
