/- Slices of slices of small numbers: how they lie in memory; networks. -/
import Derived.Test.YtlpmndlefbghoaaRows
import Derived.Test.YtlpmndlefbghoaaView
import Derived.Test.YtlpmndlefbghoaaOwn
import Derived.Test.YtlpmndlefbghoaaWhere
import Derived.Test.YtlpmndlefbghoaaSoft
import Derived.Test.YtlpmndlefbghoaaMean
import Derived.Test.YtlpmndlefbghoaaGrids
import Derived.Test.YtlpmndlefbghoaaSteps
import Derived.Test.YtlpmndlefbghoaaWorks
import Derived.WalkKit
import Derived.ProofKit
import Derived.OpenShut
import Derived.Below
import Derived.WalkLawsBesides
import Derived.Deep.QuietTactic
import Derived.BigQuiet
namespace Go.Proofs.Ytlpmndlefbghoaa
open Go.ChangeShapes Go.WideShapes Go.ChangeAt Go.RowKit
set_option linter.unusedVariables false
set_option linter.unusedSimpArgs false

theorem info22 : (Try.prog.info? 22).map (fun i => (i.zero, i.size, i.bytes)) = some (some (.slice none 0 0), 1, 24) := by kernel_rfl
theorem info53 : (Try.prog.info? 53).map (fun i => (i.zero, i.size, i.bytes)) = some (some (.int .i8 0), 1, 1) := by kernel_rfl

/-- a slice of slices of small numbers -/
structure GridB (w : World) (a : Option Addr) (n : Nat) (A : Nat → Option Addr) (C : Nat → Nat) (R : Nat → List Int) : Prop where
  max : n ≤ 9223372036854775807
  some_ : 0 < n → ∃ x, a = some x
  cell : ∀ x, a = some x → ∀ r, r < n → w.cell? (x.add r) = some (.slice (A r) (R r).length (C r))
  row : ∀ r, r < n → Reads .i8 w (A r) (R r).length (R r)
theorem GridB.below {w w' : World} {a : Option Addr} {n : Nat} {A : Nat → Option Addr} {C : Nat → Nat} {R : Nat → List Int} (h : GridB w a n A C R) (hb : Below w.heap.size w w') : GridB w' a n A C R :=
  ⟨h.max, h.some_, fun x hx r hr => (hb.cell (World.block_lt_of_cell? w _ (h.cell x hx r hr))).trans (h.cell x hx r hr), fun r hr => (h.row r hr).below hb⟩

structure OwnGridB (B : Nat) (w : World) (v : Value) (k : Nat) (A : Nat → Option Addr) (C : Nat → Nat) (R : Nat → List Int) : Prop where
  own : w.ownsRow B 22 1 v k (heads A C R k)
  row : ∀ r, r < k → Reads .i8 w (A r) (R r).length (R r)
  apart : ∀ r, r < k → 0 < (R r).length → ∀ x, A r = some x → ∀ g, v.ownBlock = some g → x.block ≠ g

theorem OwnGridB.nil (B : Nat) (w : World) (A : Nat → Option Addr) (C : Nat → Nat) (R : Nat → List Int) : OwnGridB B w (.slice none 0 0) 0 A C R :=
  ⟨World.ownsRow_nil _ _ _ _, fun r h => by omega, fun r h => by omega⟩

theorem OwnGridB.below {B : Nat} {w w' : World} {v : Value} {k : Nat} {A : Nat → Option Addr} {C : Nat → Nat} {R : Nat → List Int} (h : OwnGridB B w v k A C R) (hb : Below w.heap.size w w') : OwnGridB B w' v k A C R :=
  ⟨own_below h.own hb, fun r hr => (h.row r hr).below hb, h.apart⟩

/-- behind an append of one more row -/
theorem OwnGridB.app {B : Nat} {w w' : World} {v v' : Value} {k : Nat} {A : Nat → Option Addr} {C : Nat → Nat} {R : Nat → List Int} (h : OwnGridB B w v k A C R) {p : Option Addr} {c : Nat} {V : Value} (hV : V = .slice p (R k).length c)
    (hr : Reads .i8 w p (R k).length (R k)) (hp : 0 < (R k).length → ∀ x, p = some x → ∀ g, v.ownBlock = some g → x.block ≠ g)
    (ho : w'.ownsRow B 22 1 v' (k + 1) (heads A C R k ++ [V])) (hg : w.grownBy w' v.ownBlock) (hs : Stays w v v') :
    OwnGridB B w' v' (k + 1) (fun r => if r = k then p else A r) (fun r => if r = k then c else C r) R := by
  subst hV
  have cell_lt : ∀ (a : Option Addr) (zs : List Int), Reads .i8 w a zs.length zs → 0 < zs.length → ∀ x, a = some x → x.block < w.heap.size := fun a zs q h0 x hx => by
    have := World.block_lt_of_cell? w _ (q.cell x hx 0 h0)
    simpa [Addr.add] using this
  have new : ∀ (a : Option Addr) (zs : List Int), Reads .i8 w a zs.length zs → (0 < zs.length → ∀ x, a = some x → ∀ g, v.ownBlock = some g → x.block ≠ g) → (0 < zs.length → ∀ x, a = some x → ∀ g, v'.ownBlock = some g → x.block ≠ g) := fun a zs q hh h0 x hx g hg' => by
    rcases hs with e | e
    · exact hh h0 x hx g (e ▸ hg')
    · have h1 := e g hg'
      have h2 := cell_lt a zs q h0 x hx
      omega
  refine ⟨?_, fun r hr' => ?_, fun r hr' h0 x hx g hg' => ?_⟩
  · rw [heads_succ]
    rw [heads_congr (A' := A) (C' := C) (fun r hr => by simp only [if_neg (show r ≠ k by omega), and_self])]
    simpa using ho
  · by_cases e : r = k
    · subst e
      simp only [if_true]
      exact hr.grown hg hp
    · simp only [if_neg e]
      exact (h.row r (by omega)).grown hg (h.apart r (by omega))
  · by_cases e : r = k
    · subst e
      simp only [if_true] at hx
      exact new p (R r) hr hp h0 x hx g hg'
    · simp only [if_neg e] at hx
      exact new (A r) (R r) (h.row r (by omega)) (h.apart r (by omega)) h0 x hx g hg'

/-- what was gathered is a row of rows -/
theorem OwnGridB.grid {B : Nat} {w : World} {v : Value} {k : Nat} {A : Nat → Option Addr} {C : Nat → Nat} {R : Nat → List Int} (h : OwnGridB B w v k A C R) : ∃ a c, v = .slice a k c ∧ GridB w a k A C R := by
  rcases h.own.2 with ⟨rfl, rfl⟩ | ⟨g, cap, cur, rfl, _, hg, hn, hm, hs, ht⟩
  · exact ⟨none, 0, rfl, by omega, fun h => by omega, fun x hx => (by cases hx), fun r hr => by omega⟩
  · refine ⟨_, _, rfl, by unfold maxLen at hm; omega, fun _ => ⟨_, rfl⟩, fun x hx r hr => ?_, h.row⟩
    obtain rfl := Option.some.inj hx
    exact h.own.cells (g := g) rfl r _ (by simp [heads, hr])


/-- matrices that can be multiplied: each row's length is within its room, and eight times it within the reach -/
structure Nets (w : World) (a : Option Addr) (n : Nat) (A : Nat → Option Addr) (C : Nat → Nat) (R : Nat → List Int) : Prop where
  grid : GridB w a n A C R
  cap : ∀ r, r < n → (R r).length ≤ C r
  nil_ : ∀ r, r < n → A r = none → C r = 0
  bnd : ∀ r, r < n → (R r).length * 8 ≤ 140737488355328
theorem Nets.below {w w' : World} {a : Option Addr} {n : Nat} {A : Nat → Option Addr} {C : Nat → Nat} {R : Nat → List Int} (h : Nets w a n A C R) (hb : Below w.heap.size w w') : Nets w' a n A C R :=
  ⟨h.grid.below hb, h.cap, h.nil_, h.bnd⟩

theorem slice_oneCell (a : Option Addr) (n c : Nat) : ∀ u ∈ [Value.slice a n c], u.oneCell' = true := by
  intro u hu
  simp at hu
  subst hu
  rfl

set_option maxHeartbeats 1000000 in
theorem own_call (a0 : Option Addr) (n0 c0 : Nat) (A0 : Nat → Option Addr) (C0 : Nat → Nat) (R0 : Nat → List Int) (w : World) (w0 : Nets w a0 n0 A0 C0 R0) (b0 : n0 * 24 ≤ 140737488351232) :
    Calls Try.prog 10 #[.slice a0 n0 c0] w fun e w' => (∃ a c A C, e = .returned (.slice a n0 c) ∧ Nets w' a n0 A C R0 ∧ OwnGridB w.heap.size w' (.slice a n0 c) n0 A C R0 ∧ ∀ r, r < n0 → ∀ x, A r = some x → w.heap.size ≤ x.block) ∧ Below w.heap.size w w' := by
  obtain ⟨i0, hi, hz0, hz1, hz2⟩ := info_parts info53
  obtain ⟨j0, hj, hy0, hy1, hy2⟩ := info_parts info22
  have hm := w0.grid.max
  go_enter Try.func10, Try.ntmps10
  go_wp2
  go_loopw [3, 4] (fun v i wr => ∃ k : Nat, k ≤ n0 ∧ i = .int .i64 k ∧ Below w.heap.size w wr ∧ ∃ A C, OwnGridB w.heap.size wr v k A C R0 ∧ ∀ r, r < k → (R0 r).length ≤ C r ∧ (A r = none → C r = 0) ∧ ∀ x, A r = some x → w.heap.size ≤ x.block) (fun _ i _ => n0 - (intOf i).toNat)
  case atStart => exact ⟨0, Nat.zero_le _, rfl, Below.refl _ _, fun _ => none, fun _ => 0, OwnGridB.nil _ _ _ _ _, fun r h => by omega⟩
  case round =>
    obtain ⟨k, hk, rfl, hbr, A, C, og, hcap⟩ := hrel
    by_cases hlt : k < n0
    · have hw := w0.grid.below hbr
      obtain ⟨x, rfl⟩ := w0.grid.some_ (by omega)
      have cx := fun o => (w0.grid.below (below_new hbr o)).cell x rfl k hlt
      have rk := hw.row k hlt
      have ek := w0.nil_ k hlt
      have gk := w0.bnd k hlt
      have own := og.own
      have hsz := hbr.size
      obtain ⟨m, em⟩ : ∃ m, (R0 k).length = m := ⟨_, rfl⟩
      have Em : Hid ((R0 k).length = m) := em
      rw [em] at cx rk gk
      clear em hw
      go_wp2_with (first
        | (at_builtin; refine wpList_copy rfl (.tmp 12) (.tmp 16) 22 rfl wr.heap.size 53 i0 (.int .i8 0) 1 Try.underlying22 hi hz0 hz1 hz2 rfl _ 0 [] rfl (World.ownsRow_lit _ #[] 0 (Nat.le_refl _) (by decide) rfl) .i8 (A0 k) m (C0 k) (R0 k) rfl (rk.below (below_new (Below.refl _ _) _)) ek (by unfold maxLen; omega) (by omega) (below_new (Below.refl _ _) _).size ?_; intro v1 W1 ho1 hg1; have loc1 := ho1.lt; obtain ⟨p1, q1, rfl, r1, hb1, nn1, cap1⟩ := copied (Below.refl wr.heap.size wr) _ ho1 hg1 rk; clear ho1 hg1 rk; have own1 := own_below own hb1; have hb1' := below_then hbr hb1)
        | (at_builtin; refine wpList_append_where rfl (.tmp 11) (.tmp 18) 23 rfl w.heap.size 22 j0 (.slice none 0 0) 24 Try.underlying23 hj hy0 hy1 hy2 rfl _ k _ rfl (own1.alloc _) ⟨_, 0, none⟩ 1 (.slice p1 m q1) rfl (one_new _ _ _) (slice_oneCell _ _ _) (by unfold maxLen; omega) (by omega) (below_new hb1' _).size ?_; intro v2 W2 ho2 hg2 hs2))
      go_roundw
      case rel =>
        have bn := below_new (Below.refl W1.heap.size W1) (Obj.cells #[Value.slice p1 m q1] 22)
        refine ⟨k + 1, by omega, by go_num, below_append (below_new hb1' _) (own1.alloc _) hg2, _, _, ((og.below hb1).below bn).app (p := p1) (c := q1) (by rw [Em.out]) ?_ ?_ ho2 hg2 hs2, ?_⟩
        · rw [Em.out]; exact r1.below bn
        · intro _ y hy g hg e
          have l1 := (loc1 y.block (by rw [hy]; rfl)).1
          have l2 := (og.own.lt g hg).2
          omega
        · intro r hr
          by_cases e : r = k
          · subst e
            simp only [if_true, Em.out]
            exact ⟨cap1, nn1, fun y hy => Nat.le_trans hsz (loc1 y.block (by rw [hy]; rfl)).1⟩
          · simp only [if_neg e]
            exact hcap r (by omega)
      case measure => simp [intOf]; omega
    · have e : k = n0 := by omega
      subst e
      obtain ⟨p, q, rfl, gr⟩ := og.grid
      have Og := (show Hid _ from og)
      clear og hi hz0 hz1 hz2 hj hy0 hy1 hy2
      go_wp2
      go_ret
      exact ⟨⟨_, _, _, _, rfl, ⟨gr, fun r hr => (hcap r hr).1, fun r hr => (hcap r hr).2.1, w0.bnd⟩, Og.out, fun r hr => (hcap r hr).2.2⟩, hbr⟩

end Go.Proofs.Ytlpmndlefbghoaa
