/- A tenant by its number; where something waits; whose turn it is. -/
import Derived.Test.YtkjmlbllpnehlaaRows
import Derived.Test.YtkjmlbllpnehlaaView
import Derived.Test.YtkjmlbllpnehlaaOwn
import Derived.Test.YtkjmlbllpnehlaaBase
import Derived.Test.YtkjmlbllpnehlaaFkZ
import Derived.Test.YtkjmlbllpnehlaaFkBy
import Derived.Test.YtkjmlbllpnehlaaFkAt
import Derived.WalkKit
import Derived.ProofKit
import Derived.OpenShut
import Derived.Below
import Derived.WalkLawsBesides
import Derived.Deep.QuietTactic
import Derived.BigQuiet
import Derived.OwnWalk
namespace Go.Proofs.Ytkjmlbllpnehlaa
set_option maxRecDepth 20000
open Go.ChangeShapes Go.WideShapes Go.ChangeAt Go.RowKit
set_option linter.unusedVariables false
set_option linter.unusedSimpArgs false

def tenA (g : Nat) (s : Fr) (z : Int) : Option Addr := if numB s z = true then some ⟨g, z.toNat * 3, none⟩ else none
theorem numbered_call {B : Nat} {w : World} {f g : Nat} {A : Nat → Sl} {s : Fr} (h : FrAt B w f g A s) (hn : s.n ≤ 4) (z : Int) : Calls Try.prog 23 #[.pointer (some ⟨f, 0, none⟩), .int .i64 z] w fun e w' => e = .returned (.pointer (tenA g s z)) ∧ w' = w := by
  have t0 := h.t0
  have hu := hidden_ (show tenA g s z = if numB s z = true then some ⟨g, z.toNat * 3, none⟩ else none from rfl)
  obtain ⟨U, eU⟩ : ∃ U, tenA g s z = U := ⟨_, rfl⟩
  rw [eU] at hu ⊢
  clear eU h
  obtain ⟨n, eN⟩ : ∃ n, s.n = n := ⟨_, rfl⟩
  rw [eN] at t0 hn
  have HN := hidden_ eN
  clear eN
  obtain ⟨X, eX⟩ : ∃ X : Addr, X = ⟨g, 0, none⟩ := ⟨_, rfl⟩
  rw [← eX] at t0
  have HX := hidden_ eX
  clear eX
  by_cases h0 : z < 0
  · have hU := hu.out
    rw [if_neg (by simp [numB]; omega)] at hU
    subst hU
    clear hu
    go_enter Try.func23, Try.ntmps23
    go_wp2
    go_ret
    exact ⟨rfl, rfl⟩
  · by_cases h1 : (n : Int) ≤ z
    · have hU := hu.out
      rw [if_neg (by simp [numB, HN.out]; omega)] at hU
      subst hU
      clear hu
      go_enter Try.func23, Try.ntmps23
      go_wp2
      go_ret
      exact ⟨rfl, rfl⟩
    · obtain ⟨i, rfl⟩ : ∃ i : Nat, z = (i : Int) := ⟨z.toNat, by omega⟩
      have hi : i < n := by omega
      have hi' : (i : Int) < (n : Int) := by omega
      obtain ⟨P, eP⟩ : ∃ P, X.add (i * 3) = P := ⟨_, rfl⟩
      have e' : P = ⟨g, i * 3, none⟩ := by rw [← eP, HX.out, add_zero_at]
      have hU := hu.out
      rw [if_pos (by simp [numB, HN.out]; omega), Int.toNat_natCast, ← e'] at hU
      have HU := hidden_ hU
      clear hu e' hU
      go_enter Try.func23, Try.ntmps23
      go_wp2
      go_ret
      exact ⟨by rw [HU.out]; rfl, rfl⟩

theorem waiting_call {B : Nat} {w : World} {f g : Nat} {A : Nat → Sl} {s : Fr} (h : FrAt B w f g A s) (hn : s.n ≤ 4) (z : Int) : Calls Try.prog 15 #[.pointer (some ⟨f, 0, none⟩), .int .i64 z] w fun e w' => e = .returned (.int .i64 (waitZ s z : Int)) ∧ w' = w := by
  have k := numbered_call h hn z
  by_cases hb : numB s z = true
  · obtain ⟨z0, z1, z2, z3⟩ := num_nat hb
    have c2 := h.c2 _ z2
    have e : tenA g s z = some ⟨g, z.toNat * 3, none⟩ := by rw [tenA, if_pos hb]
    have e2 : waitZ s z = (rowOf s.L z.toNat).length := by rw [waitZ, if_pos hb]
    rw [e] at k
    rw [e2]
    obtain ⟨l, el⟩ : ∃ l, (rowOf s.L z.toNat).length = l := ⟨_, rfl⟩
    obtain ⟨o, eo⟩ : ∃ o, z.toNat * 3 = o := ⟨_, rfl⟩
    rw [el] at c2 ⊢
    rw [eo] at c2 k
    clear e e2 el eo h hb z0 z1 z2 z3
    go_enter Try.func15, Try.ntmps15
    go_wp2_with (go_at_call 23; refine k.mono ?_; rintro e W1 ⟨rfl, h1⟩; obtain rfl := h1.symm)
    go_ret
    exact ⟨rfl, rfl⟩
  · have e : tenA g s z = none := by rw [tenA, if_neg hb]
    have e2 : waitZ s z = 0 := by rw [waitZ, if_neg hb]
    rw [e] at k
    rw [e2]
    clear e e2 h hb
    go_enter Try.func15, Try.ntmps15
    go_wp2_with (go_at_call 23; refine k.mono ?_; rintro e W1 ⟨rfl, h1⟩; obtain rfl := h1.symm)
    go_ret
    exact ⟨rfl, rfl⟩
theorem clock_call {B : Nat} {w : World} {f g : Nat} {A : Nat → Sl} {s : Fr} (h : FrAt B w f g A s) (hn : s.n ≤ 4) (z : Int) : Calls Try.prog 17 #[.pointer (some ⟨f, 0, none⟩), .int .i64 z] w fun e w' => e = .returned (.int .i64 (clockZ s z)) ∧ w' = w := by
  have k := numbered_call h hn z
  by_cases hb : numB s z = true
  · obtain ⟨z0, z1, z2, z3⟩ := num_nat hb
    have c2 := h.c1 _ z2
    have e : tenA g s z = some ⟨g, z.toNat * 3, none⟩ := by rw [tenA, if_pos hb]
    have e2 : clockZ s z = s.ck z.toNat := by rw [clockZ, if_pos hb]
    rw [e] at k
    rw [e2]
    obtain ⟨l, el⟩ : ∃ l, s.ck z.toNat = l := ⟨_, rfl⟩
    obtain ⟨o, eo⟩ : ∃ o, z.toNat * 3 = o := ⟨_, rfl⟩
    rw [el] at c2 ⊢
    rw [eo] at c2 k
    clear e e2 el eo h hb z0 z1 z2 z3
    go_enter Try.func17, Try.ntmps17
    go_wp2_with (go_at_call 23; refine k.mono ?_; rintro e W1 ⟨rfl, h1⟩; obtain rfl := h1.symm)
    go_ret
    exact ⟨rfl, rfl⟩
  · have e : tenA g s z = none := by rw [tenA, if_neg hb]
    have e2 : clockZ s z = 0 := by rw [clockZ, if_neg hb]
    rw [e] at k
    rw [e2]
    clear e e2 h hb
    go_enter Try.func17, Try.ntmps17
    go_wp2_with (go_at_call 23; refine k.mono ?_; rintro e W1 ⟨rfl, h1⟩; obtain rfl := h1.symm)
    go_ret
    exact ⟨rfl, rfl⟩

/-- the closure: is it of that id? -/
theorem same_call (x y c : Int) (b : Nat) (w : World) (hb : w.cell? ⟨b, 0, none⟩ = some (.int .i64 y)) :
    Calls Try.prog 32 #[.agg #[.int .i64 x, .int .i64 c], .pointer (some ⟨b, 0, none⟩)] w fun e w' => e = .returned (.bool (x == y)) ∧ Below w.heap.size w w' := by
  have hlt := World.block_lt_of_cell? w ⟨b, 0, none⟩ hb
  have hb' := (below_new (Below.refl w.heap.size w) (.cells #[.int .i64 x, .int .i64 c] 63)).cell (p := ⟨b, 0, none⟩) hlt |>.trans hb
  go_enter Try.func32, Try.ntmps32
  go_wp2
  go_ret
  exact ⟨rfl, below_new (Below.refl _ _) _⟩

/-- things in a row, as they lie there -/
structure ReadsT (w : World) (a : Option Addr) (l : List It) : Prop where
  max : l.length ≤ 9223372036854775807
  some_ : ∀ i, i < l.length → ∃ y, a = some ⟨y, 0, none⟩
  cell : ∀ y, a = some ⟨y, 0, none⟩ → ∀ i (hi : i < l.length), w.cell? ⟨y, i * 2, none⟩ = some (.int .i64 l[i].id) ∧ w.cell? ⟨y, i * 2 + 1, none⟩ = some (.int .i64 l[i].co)
theorem ReadsT.below {w w' : World} {a : Option Addr} {l : List It} (h : ReadsT w a l) (hb : Below w.heap.size w w') : ReadsT w' a l :=
  ⟨h.max, h.some_, fun y hy i hi => by
    obtain ⟨h1, h2⟩ := h.cell y hy i hi
    exact ⟨(hb.cell (World.block_lt_of_cell? w _ h1)).trans h1, (hb.cell (World.block_lt_of_cell? w _ h2)).trans h2⟩⟩
theorem FrAt.reads {B : Nat} {w : World} {f g : Nat} {A : Nat → Sl} {s : Fr} (h : FrAt B w f g A s) {i : Nat} (hi : i < s.n) : ReadsT w (A i).a (rowOf s.L i) := by
  refine ⟨?_, fun j hj => ?_, fun y hy j hj => ?_⟩
  · rcases Nat.eq_zero_or_pos (rowOf s.L i).length with e | e
    · omega
    · obtain ⟨y, h1, h2, h3, h4, h5⟩ := h.cells hi e
      omega
  · obtain ⟨y, h1, -⟩ := h.cells hi hj
    exact ⟨y, h1⟩
  · obtain ⟨y', h1, h2, h3, -⟩ := h.cells hi hj
    rw [hy] at h1
    obtain rfl : y = y' := by simpa using h1
    exact ⟨h2, h3⟩
/-- the first place of an id in a row -/
def plT (id : Int) : List It → Nat → Option Nat
  | [], _ => none
  | x :: r, k => if x.id = id then some k else plT id r (k + 1)
def plZ (l : List It) (id : Int) : Int := if hasB l id = true then ((l.takeWhile fun x => !(x.id == id)).length : Int) else -1
theorem pl_no {l : List It} {id : Int} (h : hasB l id = false) : plZ l id = -1 := by unfold plZ; rw [h]; rfl
theorem pl_yes {l : List It} {id : Int} (h : hasB l id = true) : ∃ k, ∃ hk : k < l.length, plZ l id = (k : Int) ∧ l[k].id = id ∧ ∀ j (hj : j < k), l[j].id ≠ id := by
  unfold plZ
  rw [if_pos h]
  induction l with
  | nil => cases h
  | cons x r ih =>
    by_cases e : x.id = id
    · exact ⟨0, by simp, by simp [List.takeWhile_cons, e], e, fun j hj => by omega⟩
    · have hr : hasB r id = true := by
        unfold hasB at h ⊢
        rw [List.any_cons] at h
        simpa [e] using h
      obtain ⟨k, hk, h1, h2, h3⟩ := ih hr
      refine ⟨k + 1, by simpa using hk, ?_, by simpa using h2, fun j hj => ?_⟩
      · simp only [List.takeWhile_cons, e, beq_iff_eq, Bool.not_eq_true', beq_eq_false_iff_ne, ne_eq, not_false_eq_true, if_true, List.length_cons]
        omega
      · cases j with
        | zero => simpa using e
        | succ j => simpa using h3 j (by omega)
theorem pl_not {l : List It} {id : Int} (h : hasB l id = false) : ∀ j (hj : j < l.length), l[j].id ≠ id := fun j hj e => by
  have : hasB l id = true := has_mem.2 ⟨l[j], List.getElem_mem hj, e⟩
  rw [h] at this
  cases this

/-- an id that nothing in the row has -/
theorem index_no {w : World} {a : Option Addr} {c : Nat} {l : List It} (h : ReadsT w a l) (id : Int) (b : Nat) (hb : w.cell? ⟨b, 0, none⟩ = some (.int .i64 id)) (hn : hasB l id = false) :
    Calls Try.prog 31 #[.slice a l.length c, .func (.func 32) #[] #[.pointer (some ⟨b, 0, none⟩)]] w fun e w' => e = .returned (.int .i64 (-1)) ∧ Below w.heap.size w w' := by
  have HR := hidden_ h
  have HN := hidden_ (pl_not hn)
  have HB := hidden_ hb
  have hmax := h.max
  clear h hn hb
  obtain ⟨n, en⟩ : ∃ n, l.length = n := ⟨_, rfl⟩
  rw [en] at hmax ⊢
  have EN := hidden_ en
  clear en
  go_enter Try.func31, Try.ntmps31
  go_wp2
  go_loopw [8] (fun i wr => ∃ k : Nat, k ≤ n ∧ i = .int .i64 k ∧ Below w.heap.size w wr) (fun i _ => n - (intOf i).toNat)
  case atStart => exact ⟨0, Nat.zero_le _, rfl, Below.refl _ _⟩
  case round =>
    obtain ⟨k, hk, rfl, hbl⟩ := hrel
    by_cases hlt : k < n
    · have hlt' : k < l.length := by rw [EN.out]; exact hlt
      obtain ⟨y, rfl⟩ := HR.out.some_ k hlt'
      obtain ⟨c0, c1⟩ := (HR.out.below hbl).cell y rfl k hlt'
      have kS := same_call l[k].id id l[k].co b wr ((hbl.cell (p := ⟨b, 0, none⟩) (World.block_lt_of_cell? w _ HB.out)).trans HB.out)
      have q : (l[k].id == id) = false := by simpa using HN.out k hlt'
      rw [q] at kS
      obtain ⟨X, eX⟩ : ∃ X, l[k].id = X := ⟨_, rfl⟩
      obtain ⟨Y, eY⟩ : ∃ Y, l[k].co = Y := ⟨_, rfl⟩
      rw [eX] at c0 kS
      rw [eY] at c1 kS
      obtain ⟨Z, eZ⟩ : ∃ Z : Addr, Z = ⟨y, 0, none⟩ := ⟨_, rfl⟩
      obtain ⟨P, eP⟩ : ∃ P, Z.add (k * 2) = P := ⟨_, rfl⟩
      have e' : P = ⟨y, k * 2, none⟩ := by rw [← eP, eZ, add_zero_at]
      have c0' : wr.cell? P = some (.int .i64 X) := by rw [e']; exact c0
      have c1' : wr.cell? ⟨P.block, P.off + 1, none⟩ = some (.int .i64 Y) := by rw [e']; exact c1
      have hbl' := hidden_ hbl
      clear c0 c1 eX eY e' q hbl
      rw [← eZ]
      clear eZ
      go_wp2_with (go_at_call 32; refine kS.mono ?_; rintro e W1 ⟨rfl, h1⟩; have hq := hidden_ (below_then hbl'.out h1); clear h1 kS)
      go_roundw
      case rel => exact ⟨k + 1, by omega, by go_num, hq.out⟩
      case measure => simp [intOf]; omega
    · have e : k = n := by omega
      subst e
      go_wp2
      go_ret
      exact ⟨rfl, hbl⟩

end Go.Proofs.Ytkjmlbllpnehlaa
