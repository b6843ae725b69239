/- Rows of rows that are handed in; what was placed one behind the other, and released. -/
import Derived.Test.YtjbocoheognneaaRows
import Derived.Test.YtjbocoheognneaaPages
import Derived.Test.YtjbocoheognneaaView
import Derived.Test.YtjbocoheognneaaOwn
import Derived.Test.YtjbocoheognneaaSame
import Derived.Test.YtjbocoheognneaaWorks
import Derived.Test.YtjbocoheognneaaReadsP
import Derived.Test.YtjbocoheognneaaReadsQ
import Derived.Test.YtjbocoheognneaaCount
import Derived.Test.YtjbocoheognneaaLeast
import Derived.Test.YtjbocoheognneaaLays
import Derived.Test.YtjbocoheognneaaTurns
import Derived.Test.YtjbocoheognneaaNews
import Derived.Test.YtjbocoheognneaaGoods
import Derived.Test.YtjbocoheognneaaPlain
import Derived.Test.YtjbocoheognneaaNeeds
import Derived.Test.YtjbocoheognneaaPlace
import Derived.Test.YtjbocoheognneaaPlaces
import Derived.Test.YtjbocoheognneaaFetch
import Derived.Test.YtjbocoheognneaaFetches
import Derived.Test.YtjbocoheognneaaFetched
import Derived.Test.YtjbocoheognneaaRelease
import Derived.Test.YtjbocoheognneaaRefRel
import Derived.Test.YtjbocoheognneaaLies
import Derived.Test.YtjbocoheognneaaWorks12
import Derived.WalkKit
import Derived.ProofKit
import Derived.OpenShut
import Derived.Below
import Derived.WalkLawsBesides
import Derived.Deep.QuietTactic
import Derived.BigQuiet
import Derived.RangeFuncNested
import Derived.RangeFuncBox
import Derived.RangeFuncBound
import Derived.RangeFuncCalls
import Derived.RangeFuncLeaves
import Derived.Shelf.Abstract
import Derived.Shelf.RegionOpen
import Derived.OwnWalkIn
import Derived.TacticsInMore
import Derived.LoopNIn
import Derived.LoopIn
import Derived.Deep.Matrix
import Derived.SizedLaws
import Derived.OwnWalk
namespace Go.Proofs.Ytjbocoheognneaa
open Go.ChangeShapes Go.WideShapes Go.ChangeAt Go.RowKit
set_option linter.unusedVariables false

theorem restN (x : Int) (n : Nat) (hn : 0 < n) : ∃ M : Nat, M < n ∧ (IntKind.u64.wrap x).tmod (n : Int) = (M : Int) ∧ IntKind.u64.wrap x % (n : Int) = (M : Int) := by
  have b : 0 ≤ IntKind.u64.wrap x := by rw [IntKind.wrap_u64]; omega
  generalize IntKind.u64.wrap x = U at *
  have h0 := Int.emod_nonneg U (show (n : Int) ≠ 0 by omega)
  have h1 := Int.emod_lt_of_pos U (show 0 < (n : Int) by omega)
  refine ⟨(U % (n : Int)).toNat, by omega, ?_, by omega⟩
  rw [Int.tmod_eq_emod_of_nonneg b]
  omega

/-- a slice of slices of small numbers -/
structure GridB (w : World) (a : Option Addr) (n : Nat) (A : Nat → Option Addr) (C : Nat → Nat) (R : Nat → List Int) : Prop where
  max : n ≤ 9223372036854775807
  some_ : 0 < n → ∃ x, a = some x
  cell : ∀ x, a = some x → ∀ r, r < n → w.cell? (x.add r) = some (.slice (A r) (R r).length (C r))
  row : ∀ r, r < n → Reads .i8 w (A r) (R r).length (R r)
theorem GridB.below {w w' : World} {a : Option Addr} {n : Nat} {A : Nat → Option Addr} {C : Nat → Nat} {R : Nat → List Int} (h : GridB w a n A C R) (hb : Below w.heap.size w w') : GridB w' a n A C R :=
  ⟨h.max, h.some_, fun x hx r hr => (hb.cell (World.block_lt_of_cell? w _ (h.cell x hx r hr))).trans (h.cell x hx r hr), fun r hr => (h.row r hr).below hb⟩
theorem open_gridB {H : Type} {enc : TypeId × Value → H} {W : World} {a : Option Addr} {n c : Nat} {d : DataW H} {p : List MemPlace} (h : DataW.Trod enc Try.prog W 0 (fun _ => true) true 50 (.slice a n c) d p) :
    ∃ A C R, GridB W a n A C R ∧ (a = none → c = 0) ∧ n ≤ c := by
  obtain ⟨fuel, hf⟩ := h
  rcases Go.Deep.open_int_rows Try.underlying50 Try.underlying31 Try.underlying67 (by kernel_rfl) (by kernel_rfl) hf with ⟨hcs, hd⟩ | ⟨x, len, cap, A, L, C, Z, hcs, _, hl, hm, hd, hrow⟩
  · simp [Value.cells] at hcs
    obtain ⟨rfl, rfl, rfl⟩ := hcs
    exact ⟨fun _ => none, fun _ => 0, fun _ => [], ⟨by omega, fun h => by omega, fun _ h => (by cases h), fun r hr => by omega⟩, fun _ => rfl, Nat.le_refl _⟩
  · simp [Value.cells] at hcs
    obtain ⟨rfl, rfl, rfl⟩ := hcs
    have hlen : ∀ r, r < n → ((Z r).take (L r)).length = L r := fun r hr => by
      obtain ⟨_, h1, _, h3, _⟩ := hrow r (by omega)
      rw [List.length_take]; omega
    refine ⟨A, C, fun r => (Z r).take (L r), ⟨by unfold maxLen at hm; omega, fun _ => ⟨_, rfl⟩, fun y hy r hr => ?_, fun r hr => ?_⟩, fun h => (by cases h), hl⟩
    · obtain rfl := Option.some.inj hy
      rw [hlen r hr]
      exact (hrow r (by omega)).1
    · rw [hlen r hr]
      obtain ⟨_, h1, h2, h3, h4, h5, h6⟩ := hrow r (by omega)
      cases hA : A r with
      | none =>
        have : L r = 0 := by have := h5 hA; omega
        rw [this]
        exact Reads.nil _ _
      | some y => exact Reads.of_open h1 h2 h3 (fun i hi => (h6 y hA).2 i (by omega)) h4

/-- how many pages the first ones have together -/
def sumL (P : Nat → List Int) : Nat → Nat
  | 0 => 0
  | k + 1 => sumL P k + (P k).length
theorem sumL_upd (P : Nat → List Int) (K : Nat) (l : List Int) : ∀ k, k ≤ K → sumL (upd P K l) k = sumL P k := by
  intro k
  induction k with
  | zero => intro _; rfl
  | succ k ih => intro h; simp only [sumL]; rw [ih (by omega), upd_other _ _ _ _ (by omega)]

theorem sumL_le (P : Nat → List Int) (i : Nat) : ∀ K, i < K → (P i).length ≤ sumL P K := by
  intro K
  induction K with
  | zero => intro h; omega
  | succ K ih =>
    intro h
    simp only [sumL]
    by_cases e : i = K
    · subst e; omega
    · have := ih (by omega); omega

/-- pages that are not the same are not more than there are -/
theorem nodup_few (P : List Int) : ∀ n : Nat, P.Nodup → (∀ z ∈ P, 0 ≤ z ∧ z < (n : Int)) → P.length ≤ n := by
  intro n
  induction n generalizing P with
  | zero =>
    intro _ h
    cases P with
    | nil => exact Nat.le_refl _
    | cons z r => have := h z (by simp); omega
  | succ n ih =>
    intro hn h
    have h1 := ih (P.filter fun z => !(z == (n : Int))) (hn.sublist List.filter_sublist) (fun z hz => by
      obtain ⟨a, b⟩ := List.mem_filter.1 hz
      have := h z a
      simp at b
      omega)
    have h2 := count_le_one hn (n : Int)
    have h3 : P.length = P.count (n : Int) + (P.filter fun z => !(z == (n : Int))).length := by
      rw [List.count, List.length_eq_countP_add_countP (fun z => z == (n : Int)), List.countP_eq_length_filter (p := fun a => decide (¬(a == (n : Int)) = true))]
      congr 2
      apply List.filter_congr
      intro x _
      cases x == (n : Int) <;> rfl
    omega
theorem pages_few {s : Pl} {P : List Int} {o : Int} (h : Owned s P o) : P.length ≤ s.n := nodup_few P s.n h.1 (fun z hz => ⟨(h.2 z hz).1, (h.2 z hz).2.1⟩)

/-- what was placed, one behind the other -/
structure Placed (N K : Nat) (s : Pl) (P Wt : Nat → List Int) : Prop where
  good : Good 5 s
  n : s.n = N
  aside : s.aside = 0
  lies : ∀ i, i < K → Lies s (P i) (Wt i) 1
  wf : ∀ i, i < K → ∀ z ∈ Wt i, (Lit.int .i8 z).wf = true
  apart : ∀ i, i < K → ∀ j, j < K → i ≠ j → ∀ z ∈ P i, z ∉ P j
  free : freeTo s.pg N + sumL P K = N

theorem placed_new (N : Nat) (h0 : 1 ≤ N) (h1 : N ≤ 256) (P Wt : Nat → List Int) : Placed N 0 (newPl N) P Wt :=
  ⟨good_new N 5 h0 h1, rfl, rfl, fun i hi => by omega, fun i hi => by omega, fun i hi => by omega, by show freeTo (newPl N).pg N + 0 = N; rw [freeTo_new]; omega⟩

theorem place_fits {s : Pl} (ha : s.aside = 0) (W : List Int) : (W.length ≤ 32 * freeTo s.pg s.n → placeE s tM W = 0) ∧ (¬ W.length ≤ 32 * freeTo s.pg s.n → placeE s tM W = 6) := by
  unfold placeE takeE
  rw [needZ_nat, if_neg (fun h => h.elim tM_ne (by omega)), ha]
  constructor
  · intro h; rw [if_neg (by omega)]
  · intro h; rw [if_pos (by omega)]

theorem Placed.step {N K : Nat} {s : Pl} {P Wt : Nat → List Int} (h : Placed N K s P Wt) (W : List Int) (hw : ∀ z ∈ W, (Lit.int .i8 z).wf = true) (h0 : placeE s tM W = 0) : Placed N (K + 1) (placeS s tM W) (upd P K (placeR s tM W)) (upd Wt K W) := by
  obtain ⟨q1, q2, q3, q4, q5, q6⟩ := placed h.good tM W h0
  have hno : ∀ i, i < K → ∀ z ∈ P i, z ∉ placeR s tM W := fun i hi z hz hz' => by
    have := ((h.lies i hi).own.2 z hz).2.2
    rw [(q5 z hz').2.2] at this
    omega
  refine ⟨h.good.placeS (by decide) tM W, q2.trans h.n, q3.trans h.aside, fun i hi => ?_, fun i hi => ?_, fun i hi j hj hne z => ?_, ?_⟩
  · by_cases e : i = K
    · subst e
      rw [upd_same, upd_same]
      exact q1
    · rw [upd_other _ _ _ _ e, upd_other _ _ _ _ e]
      exact (h.lies i (by omega)).same q2 (fun x hx => q4 x (hno i (by omega) _ hx))
  · by_cases e : i = K
    · subst e
      rw [upd_same]
      exact hw
    · rw [upd_other _ _ _ _ e]
      exact h.wf i (by omega)
  · by_cases e : i = K
    · subst e
      rw [upd_same, upd_other _ _ _ _ (Ne.symm hne)]
      exact fun hz hz' => hno j (by omega) z hz' hz
    · rw [upd_other _ _ _ _ e]
      by_cases e' : j = K
      · subst e'
        rw [upd_same]
        exact hno i (by omega) z
      · rw [upd_other _ _ _ _ e']
        exact h.apart i (by omega) j (by omega) hne z
  · simp only [sumL]
    rw [sumL_upd P K _ K (Nat.le_refl _), upd_same]
    have := h.free
    rw [h.n] at q6
    omega

/-- the first i have been released -/
structure Freed (N K i : Nat) (s : Pl) (P Wt : Nat → List Int) : Prop where
  good : Good 5 s
  n : s.n = N
  lies : ∀ j, i ≤ j → j < K → Lies s (P j) (Wt j) 1
  apart : ∀ a, a < K → ∀ b, b < K → a ≠ b → ∀ z ∈ P a, z ∉ P b
  free : freeTo s.pg N + sumL P K = N + sumL P i
theorem Placed.freed {N K : Nat} {s : Pl} {P Wt : Nat → List Int} (h : Placed N K s P Wt) : Freed N K 0 s P Wt := ⟨h.good, h.n, fun j _ hj => h.lies j hj, h.apart, h.free⟩
theorem Freed.step {N K i : Nat} {s : Pl} {P Wt : Nat → List Int} (h : Freed N K i s P Wt) (hi : i < K) : relE s (P i) = 0 ∧ Freed N K (i + 1) (relS s (P i)) P Wt := by
  have hl := h.lies i (Nat.le_refl _) hi
  have hr := hl.own.rel (by decide)
  have e1 : relE s (P i) = 0 := by unfold relE; rw [if_pos hr]
  have e2 : relS s (P i) = (P i).foldl drS s := by unfold relS; rw [if_pos hr]
  refine ⟨e1, ?_⟩
  have hg := h.good.relS (P i)
  rw [e2] at hg ⊢
  obtain ⟨a1, a2, a3, a4⟩ := steps_all dropPg (P i) s hl.own.1 (hl.own.used (by decide))
  rw [← drS_step] at a1 a2 a3 a4
  refine ⟨hg, a1.trans h.n, fun j hj hjK => ?_, h.apart, ?_⟩
  · exact (h.lies j (by omega) hjK).same a1 (fun x hx => a4 x (h.apart j hjK i hi (by omega) _ hx))
  · have := drops_free (P i) s hl.own
    rw [h.n] at this
    have := h.free
    simp only [sumL]
    omega
theorem Freed.all {N K : Nat} {s : Pl} {P Wt : Nat → List Int} (h : Freed N K K s P Wt) : freeTo s.pg N = N := by have := h.free; omega

structure SL where
  a : Option Addr
  n : Nat
  c : Nat
def SL.v (s : SL) : Value := .slice s.a s.n s.c
theorem info32 : (Try.prog.info? 32).map (fun i => (i.zero, i.size, i.bytes)) = some (some (.slice none 0 0), 1, 24) := by kernel_rfl
theorem info31 : (Try.prog.info? 31).map (fun i => (i.zero, i.size, i.bytes)) = some (some (.slice none 0 0), 1, 24) := by kernel_rfl
theorem one_slice (a : Option Addr) (n c : Nat) : ∀ u ∈ [Value.slice a n c], u.oneCell' = true := by
  intro u hu
  simp at hu
  subst hu
  rfl
/-- the cells of a row of rows -/
def sls (Y : Nat → SL) (k : Nat) : List Value := (List.range k).map fun i => (Y i).v
theorem sls_len (Y : Nat → SL) (k : Nat) : (sls Y k).length = k := by simp [sls]
theorem sls_at (Y : Nat → SL) (k i : Nat) (h : i < k) : (sls Y k)[i]? = some (.slice (Y i).a (Y i).n (Y i).c) := by simp [sls, h, SL.v]
theorem sls_snoc (Y : Nat → SL) (k : Nat) (y : SL) : sls (upd Y k y) (k + 1) = sls Y k ++ [.slice y.a y.n y.c] := by
  unfold sls
  rw [List.range_succ, List.map_append]
  congr 1
  · apply List.map_congr_left
    intro i hi
    rw [upd_other _ _ _ _ (by have := List.mem_range.1 hi; omega)]
  · simp [upd_same, SL.v]
theorem own_cell {w : World} {B : Nat} {e : TypeId} {a : Option Addr} {k n c : Nat} {cs : List Value} (h : w.ownsRow B e 1 (.slice a n c) k cs) {i : Nat} {u : Value} (hi : cs[i]? = some u) : ∃ x, a = some x ∧ w.cell? (x.add i) = some u := by
  rcases h.2 with ⟨h1, h0⟩ | ⟨g, cap, cur, h1, h2, h3, h4⟩
  · have := h.1
    rw [h0] at this
    have hl : cs.length = 0 := by simpa using this
    have := (List.getElem?_eq_some_iff.1 hi).1
    omega
  · simp only [Value.slice.injEq] at h1
    obtain ⟨rfl, rfl, rfl⟩ := h1
    exact ⟨_, rfl, h.cells (g := g) rfl i u hi⟩

/-- the two rows of rows that the statement keeps: the pages, and what was placed -/
structure Kept (B : Nat) (w wr : World) (v7 v8 : Value) (K : Nat) (P Wt : Nat → List Int) (Q Y : Nat → SL) : Prop where
  own7 : wr.ownsRow B 32 1 v7 K (sls Q K)
  own8 : wr.ownsRow B 31 1 v8 K (sls Y K)
  row : ∀ i, i < K → RowI B wr (Q i).a (Q i).n (Q i).c (P i)
  inn : ∀ i, i < K → Reads .i8 w (Y i).a (Y i).n (Wt i)
theorem Kept.off {B B' : Nat} {T : TypeId → Bool} {w wr w' : World} {v7 v8 : Value} {K : Nat} {P Wt : Nat → List Int} {Q Y : Nat → SL} (h : Kept B w wr v7 v8 K P Wt Q Y) (o : Off B' T wr w') (h3 : T 3 = false) (h31 : T 31 = false) (h32 : T 32 = false) : Kept B w w' v7 v8 K P Wt Q Y :=
  ⟨own_off h.own7 o h32, own_off h.own8 o h31, fun i hi => (h.row i hi).off o h3, h.inn⟩
theorem Kept.below {B : Nat} {w wr w' : World} {v7 v8 : Value} {K : Nat} {P Wt : Nat → List Int} {Q Y : Nat → SL} (h : Kept B w wr v7 v8 K P Wt Q Y) (o : Below wr.heap.size wr w') : Kept B w w' v7 v8 K P Wt Q Y :=
  h.off (T := fun _ => false) (B' := 0) (Off.of_below o) rfl rfl rfl

end Go.Proofs.Ytjbocoheognneaa
