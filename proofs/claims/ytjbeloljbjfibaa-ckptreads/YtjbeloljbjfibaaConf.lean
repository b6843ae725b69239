/- Texts put together: Cfg, Cfgs, Held. -/
import Derived.Test.YtjbeloljbjfibaaRows
import Derived.Test.YtjbeloljbjfibaaLayer8
import Derived.WalkKit
import Derived.ProofKit
import Derived.OpenShut
import Derived.Below
import Derived.WalkLawsBesides
import Derived.Deep.QuietTactic
import Derived.BigQuiet
import Derived.Deep.RegionWith
namespace Go.Proofs.Ytjbeloljbjfibaa

/- Configurations: eight numbers; when they are right; the program's Config and the document's. -/
section
open Go.ChangeShapes Go.WideShapes Go.ChangeAt Go.RowKit
set_option linter.unusedVariables false

/-- a configuration's numbers -/
structure Cfg where
  dim : Int
  heads : Int
  layers : Int
  vocab : Int
  hidden : Int
  experts : Int
  topk : Int
  window : Int

def Cfg.cells (c : Cfg) : Array Value := #[.int .i64 c.dim, .int .i64 c.heads, .int .i64 c.layers, .int .i64 c.vocab, .int .i64 c.hidden, .int .i64 c.experts, .int .i64 c.topk, .int .i64 c.window]

def headsB (d h : Int) : Bool := decide (2 ≤ d ∧ d ≤ 8 ∧ 1 ≤ h ∧ d % h = 0 ∧ d / h % 2 = 0)
def expertsB (x t : Int) : Bool := decide ((x = 0 ∧ t = 0) ∨ (2 ≤ x ∧ x ≤ 4 ∧ 1 ≤ t ∧ t ≤ x))
def Cfg.ok (c : Cfg) : Bool := headsB c.dim c.heads && expertsB c.experts c.topk && decide (1 ≤ c.layers ∧ c.layers ≤ 2) && decide (2 ≤ c.vocab ∧ c.vocab ≤ 16) && decide (1 ≤ c.hidden ∧ c.hidden ≤ 8) && decide (0 ≤ c.window ∧ c.window ≤ 16)

theorem within_call (n a b : Int) (w : World) : Calls Try.prog 29 #[.int .i64 n, .int .i64 a, .int .i64 b] w fun e w' => e = .returned (.bool (decide (a ≤ n ∧ n ≤ b))) ∧ w' = w := by
  by_cases h1 : a ≤ n
  · by_cases h2 : n ≤ b
    · rw [show decide (a ≤ n ∧ n ≤ b) = true by simp [h1, h2]]
      go_enter Try.func29, Try.ntmps29
      go_wp2
      go_ret
      exact ⟨rfl, rfl⟩
    · rw [show decide (a ≤ n ∧ n ≤ b) = false by simp [h2]]
      go_enter Try.func29, Try.ntmps29
      go_wp2
      go_ret
      exact ⟨rfl, rfl⟩
  · rw [show decide (a ≤ n ∧ n ≤ b) = false by simp [h1]]
    go_enter Try.func29, Try.ntmps29
    go_wp2
    go_ret
    exact ⟨rfl, rfl⟩

theorem in_call (n a b : Int) (w : World) : Calls Try.prog 30 #[.int .i64 n, .int .i64 a, .int .i64 b] w fun e w' => e = .returned (.bool (decide (a ≤ n ∧ n ≤ b))) ∧ w' = w := by
  by_cases h1 : a ≤ n
  · by_cases h2 : n ≤ b
    · rw [show decide (a ≤ n ∧ n ≤ b) = true by simp [h1, h2]]
      go_enter Try.func30, Try.ntmps30
      go_wp2
      go_ret
      exact ⟨rfl, rfl⟩
    · rw [show decide (a ≤ n ∧ n ≤ b) = false by simp [h2]]
      go_enter Try.func30, Try.ntmps30
      go_wp2
      go_ret
      exact ⟨rfl, rfl⟩
  · rw [show decide (a ≤ n ∧ n ≤ b) = false by simp [h1]]
    go_enter Try.func30, Try.ntmps30
    go_wp2
    go_ret
    exact ⟨rfl, rfl⟩

theorem heads_no0 {d h : Int} (x : ¬ (2 ≤ d ∧ d ≤ 8)) : headsB d h = false := decide_eq_false fun y => x ⟨y.1, y.2.1⟩
theorem heads_no1 {d h : Int} (x : h < 1) : headsB d h = false := decide_eq_false fun y => by have := y.2.2.1; omega
theorem heads_no2 {d h : Int} (x : ¬ d % h = 0) : headsB d h = false := decide_eq_false fun y => x y.2.2.2.1
theorem heads_yes {d h : Int} (x : 2 ≤ d ∧ d ≤ 8) (y : 1 ≤ h) (z : d % h = 0) : headsB d h = ((d / h).tmod 2 == 0) := by
  have e : (d / h).tmod 2 = d / h % 2 := Int.tmod_eq_emod_of_nonneg (Int.ediv_nonneg (by have := x.1; omega) (by omega))
  rw [e]
  unfold headsB
  by_cases g : d / h % 2 = 0
  · rw [decide_eq_true ⟨x.1, x.2, y, z, g⟩, g]; rfl
  · rw [decide_eq_false (fun u => g u.2.2.2.2)]
    exact (beq_false_of_ne g).symm

theorem rightHeads_call (d h l v u x t n : Int) (w : World) : Calls Try.prog 27 #[.agg #[.int .i64 d, .int .i64 h, .int .i64 l, .int .i64 v, .int .i64 u, .int .i64 x, .int .i64 t, .int .i64 n]] w fun e w' => e = .returned (.bool (headsB d h)) ∧ Below w.heap.size w w' := by
  have k1 := within_call d 2 8
  by_cases g0 : 2 ≤ d ∧ d ≤ 8
  · simp only [decide_eq_true g0] at k1
    by_cases g1 : h < 1
    · rw [heads_no1 g1]
      go_enter Try.func27, Try.ntmps27
      go_wp2_with (first | (go_at_call 29; refine (k1 _).mono ?_; rintro e w' ⟨rfl, rfl⟩))
      go_ret
      exact ⟨rfl, (Below.refl _ w).alloc (Nat.le_refl _) _⟩
    · have g1' : 1 ≤ h := by omega
      obtain ⟨g3, g4⟩ := g0
      by_cases g2 : d % h = 0
      · rw [heads_yes ⟨g3, g4⟩ g1' g2]
        go_enter Try.func27, Try.ntmps27
        go_wp2_with (first | (go_at_call 29; refine (k1 _).mono ?_; rintro e w' ⟨rfl, rfl⟩))
        go_ret
        exact ⟨rfl, (Below.refl _ w).alloc (Nat.le_refl _) _⟩
      · rw [heads_no2 g2]
        go_enter Try.func27, Try.ntmps27
        go_wp2_with (first | (go_at_call 29; refine (k1 _).mono ?_; rintro e w' ⟨rfl, rfl⟩))
        go_ret
        exact ⟨rfl, (Below.refl _ w).alloc (Nat.le_refl _) _⟩
  · simp only [decide_eq_false g0] at k1
    rw [heads_no0 g0]
    clear g0
    go_enter Try.func27, Try.ntmps27
    go_wp2_with (first | (go_at_call 29; refine (k1 _).mono ?_; rintro e w' ⟨rfl, rfl⟩))
    go_ret
    exact ⟨rfl, (Below.refl _ w).alloc (Nat.le_refl _) _⟩

theorem rightExperts_call (d h l v u x t n : Int) (w : World) : Calls Try.prog 28 #[.agg #[.int .i64 d, .int .i64 h, .int .i64 l, .int .i64 v, .int .i64 u, .int .i64 x, .int .i64 t, .int .i64 n]] w fun e w' => e = .returned (.bool (expertsB x t)) ∧ Below w.heap.size w w' := by
  by_cases g0 : x = 0
  · subst g0
    have e : expertsB 0 t = (t == 0) := by
      unfold expertsB
      rw [Bool.eq_iff_iff]
      simp
    rw [e]
    clear e
    go_enter Try.func28, Try.ntmps28
    go_wp2
    go_ret
    exact ⟨rfl, (Below.refl _ w).alloc (Nat.le_refl _) _⟩
  · have k1 := within_call x 2 4
    have k2 := within_call t 1 x
    have g0' : (x == 0) = false := by simp [g0]
    by_cases g1 : 2 ≤ x ∧ x ≤ 4
    · have e : expertsB x t = decide (1 ≤ t ∧ t ≤ x) := by
        unfold expertsB
        rw [Bool.eq_iff_iff]
        simp
        omega
      rw [e]
      clear e
      simp only [decide_eq_true g1] at k1
      clear g1 g0
      obtain ⟨B, eB⟩ : ∃ B, decide (1 ≤ t ∧ t ≤ x) = B := ⟨_, rfl⟩
      simp only [eB] at k2 ⊢
      clear eB
      go_enter Try.func28, Try.ntmps28
      go_wp2_with (first | (go_at_call_of 29 t; clear k1; refine (k2 _).mono ?_; rintro e w' ⟨rfl, rfl⟩) | (go_at_call 29; refine (k1 _).mono ?_; rintro e w' ⟨rfl, rfl⟩))
      go_ret
      exact ⟨rfl, (Below.refl _ w).alloc (Nat.le_refl _) _⟩
    · have e : expertsB x t = false := by
        unfold expertsB
        rw [Bool.eq_iff_iff]
        simp
        omega
      rw [e]
      clear e
      simp only [decide_eq_false g1] at k1
      clear g1 g0 k2
      go_enter Try.func28, Try.ntmps28
      go_wp2_with (first | (go_at_call 29; refine (k1 _).mono ?_; rintro e w' ⟨rfl, rfl⟩))
      go_ret
      exact ⟨rfl, (Below.refl _ w).alloc (Nat.le_refl _) _⟩
end

/- The program's Config and the document's: both tell whether the eight numbers are right. -/
section
open Go.ChangeShapes Go.WideShapes Go.ChangeAt Go.RowKit
set_option linter.unusedVariables false

def okB (d h l v u x t n : Int) : Bool := headsB d h && (expertsB x t && (decide (1 ≤ l ∧ l ≤ 2) && (decide (2 ≤ v ∧ v ≤ 16) && (decide (1 ≤ u ∧ u ≤ 8) && decide (0 ≤ n ∧ n ≤ 16)))))

/-- at block b lies a struct of these cells -/
def Blk (t : TypeId) (w : World) (b : Nat) (cs : Array Value) : Prop := w.heap[b]? = some (.cells cs t (0, 0))

theorem Blk.lt {t : TypeId} {w : World} {b : Nat} {cs : Array Value} (h : Blk t w b cs) : b < w.heap.size := (Array.getElem?_eq_some_iff.1 h).1
theorem Blk.cell {t : TypeId} {w : World} {b : Nat} {cs : Array Value} (h : Blk t w b cs) (i : Nat) {v : Value} (hi : cs[i]? = some v) : w.cell? ⟨b, i, none⟩ = some v := by simp [World.cell?, show w.heap[b]? = _ from h, hi]
theorem Blk.open_ {t : TypeId} {w : World} {b : Nat} {cs : Array Value} (h : Blk t w b cs) (i : Nat) : w.frozen? ⟨b, i, none⟩ = false := by simp [World.frozen?, show w.heap[b]? = _ from h]
theorem Blk.new (t : TypeId) (w : World) (cs : Array Value) : Blk t (w.alloc (.cells cs t)) w.heap.size cs := heap_alloc_new w _
theorem Blk.kept {t : TypeId} {w w' : World} {b : Nat} {cs : Array Value} (h : Blk t w b cs) (hb : Below w.heap.size w w') : Blk t w' b cs := (hb.block b h.lt).trans h
theorem Blk.set {t : TypeId} {w : World} {b : Nat} {cs : Array Value} (h : Blk t w b cs) (i : Nat) (v : Value) : Blk t (w.setCell ⟨b, i, none⟩ v) b (cs.setIfInBounds i v) := by
  have e : w.heap[b]? = some (.cells cs t (0, 0)) := h
  have h1 := setCell_eq_setRow w b i cs t (0, 0) v e
  have h2 := setRow_heap w b cs (cs.setIfInBounds i v) t (0, 0) e
  show (w.setCell ⟨b, i, none⟩ v).heap[b]? = _
  rw [h1]
  exact h2

theorem Blk.cfg {t0 : TypeId} {w : World} {b : Nat} {d h l v u x t n : Int} (k : Blk t0 w b #[.int .i64 d, .int .i64 h, .int .i64 l, .int .i64 v, .int .i64 u, .int .i64 x, .int .i64 t, .int .i64 n]) :
    w.cell? ⟨b, 0, none⟩ = some (.int .i64 d) ∧ w.cell? ⟨b, 1, none⟩ = some (.int .i64 h) ∧ w.cell? ⟨b, 2, none⟩ = some (.int .i64 l) ∧ w.cell? ⟨b, 3, none⟩ = some (.int .i64 v) ∧
    w.cell? ⟨b, 4, none⟩ = some (.int .i64 u) ∧ w.cell? ⟨b, 5, none⟩ = some (.int .i64 x) ∧ w.cell? ⟨b, 6, none⟩ = some (.int .i64 t) ∧ w.cell? ⟨b, 7, none⟩ = some (.int .i64 n) :=
  ⟨k.cell 0 rfl, k.cell 1 rfl, k.cell 2 rfl, k.cell 3 rfl, k.cell 4 rfl, k.cell 5 rfl, k.cell 6 rfl, k.cell 7 rfl⟩

theorem config_walk (d h l v u x t n : Int) (w : World) (B1 B2 B3 B4 B5 B6 : Bool)
    (k1 : ∀ w, Calls Try.prog 27 #[.agg #[.int .i64 d, .int .i64 h, .int .i64 l, .int .i64 v, .int .i64 u, .int .i64 x, .int .i64 t, .int .i64 n]] w fun e w' => e = .returned (.bool B1) ∧ Below w.heap.size w w')
    (k2 : ∀ w, Calls Try.prog 28 #[.agg #[.int .i64 d, .int .i64 h, .int .i64 l, .int .i64 v, .int .i64 u, .int .i64 x, .int .i64 t, .int .i64 n]] w fun e w' => e = .returned (.bool B2) ∧ Below w.heap.size w w')
    (k3 : ∀ w, Calls Try.prog 29 #[.int .i64 l, .int .i64 1, .int .i64 2] w fun e w' => e = .returned (.bool B3) ∧ w' = w)
    (k4 : ∀ w, Calls Try.prog 29 #[.int .i64 v, .int .i64 2, .int .i64 16] w fun e w' => e = .returned (.bool B4) ∧ w' = w)
    (k5 : ∀ w, Calls Try.prog 29 #[.int .i64 u, .int .i64 1, .int .i64 8] w fun e w' => e = .returned (.bool B5) ∧ w' = w)
    (k6 : ∀ w, Calls Try.prog 29 #[.int .i64 n, .int .i64 0, .int .i64 16] w fun e w' => e = .returned (.bool B6) ∧ w' = w) :
    Calls Try.prog 9 #[.agg #[.int .i64 d, .int .i64 h, .int .i64 l, .int .i64 v, .int .i64 u, .int .i64 x, .int .i64 t, .int .i64 n]] w fun e w' => e = .returned (.bool (B1 && (B2 && (B3 && (B4 && (B5 && B6)))))) ∧ Below w.heap.size w w' := by
  have hb := below_new (Below.refl w.heap.size w) (.cells #[.int .i64 d, .int .i64 h, .int .i64 l, .int .i64 v, .int .i64 u, .int .i64 x, .int .i64 t, .int .i64 n] 23)
  have key := Blk.new 23 w #[.int .i64 d, .int .i64 h, .int .i64 l, .int .i64 v, .int .i64 u, .int .i64 x, .int .i64 t, .int .i64 n]
  cases B1 with
  | false =>
    go_enter Try.func9, Try.ntmps9
    go_wp2_with (first
        | (go_at_call 27; refine (k1 _).mono ?_; rintro e W1 ⟨rfl, h1⟩; clear k1; obtain ⟨c0, c1, c2, c3, c4, c5, c6, c7⟩ := (key.kept h1).cfg; replace key := key.kept h1; replace hb := below_then hb h1; clear h1)
        | (go_at_call 28; refine (k2 _).mono ?_; rintro e W2 ⟨rfl, h2⟩; clear k2 c0 c1 c2 c3 c4 c5 c6 c7; obtain ⟨c0, c1, c2, c3, c4, c5, c6, c7⟩ := (key.kept h2).cfg; replace hb := below_then hb h2; clear h2)
        | (go_at_call_of 29 l; refine (k3 _).mono ?_; rintro e W3 ⟨rfl, h3⟩; obtain rfl := h3.symm)
        | (go_at_call_of 29 v; refine (k4 _).mono ?_; rintro e W4 ⟨rfl, h4⟩; obtain rfl := h4.symm)
        | (go_at_call_of 29 u; refine (k5 _).mono ?_; rintro e W5 ⟨rfl, h5⟩; obtain rfl := h5.symm)
        | (go_at_call_of 29 n; refine (k6 _).mono ?_; rintro e W6 ⟨rfl, h6⟩; obtain rfl := h6.symm))
    go_ret
    exact ⟨rfl, hb⟩
  | true =>
    cases B2 with
    | false =>
      go_enter Try.func9, Try.ntmps9
      go_wp2_with (first
          | (go_at_call 27; refine (k1 _).mono ?_; rintro e W1 ⟨rfl, h1⟩; clear k1; obtain ⟨c0, c1, c2, c3, c4, c5, c6, c7⟩ := (key.kept h1).cfg; replace key := key.kept h1; replace hb := below_then hb h1; clear h1)
          | (go_at_call 28; refine (k2 _).mono ?_; rintro e W2 ⟨rfl, h2⟩; clear k2 c0 c1 c2 c3 c4 c5 c6 c7; obtain ⟨c0, c1, c2, c3, c4, c5, c6, c7⟩ := (key.kept h2).cfg; replace hb := below_then hb h2; clear h2)
          | (go_at_call_of 29 l; refine (k3 _).mono ?_; rintro e W3 ⟨rfl, h3⟩; obtain rfl := h3.symm)
          | (go_at_call_of 29 v; refine (k4 _).mono ?_; rintro e W4 ⟨rfl, h4⟩; obtain rfl := h4.symm)
          | (go_at_call_of 29 u; refine (k5 _).mono ?_; rintro e W5 ⟨rfl, h5⟩; obtain rfl := h5.symm)
          | (go_at_call_of 29 n; refine (k6 _).mono ?_; rintro e W6 ⟨rfl, h6⟩; obtain rfl := h6.symm))
      go_ret
      exact ⟨rfl, hb⟩
    | true =>
      cases B3 with
      | false =>
        go_enter Try.func9, Try.ntmps9
        go_wp2_with (first
            | (go_at_call 27; refine (k1 _).mono ?_; rintro e W1 ⟨rfl, h1⟩; clear k1; obtain ⟨c0, c1, c2, c3, c4, c5, c6, c7⟩ := (key.kept h1).cfg; replace key := key.kept h1; replace hb := below_then hb h1; clear h1)
            | (go_at_call 28; refine (k2 _).mono ?_; rintro e W2 ⟨rfl, h2⟩; clear k2 c0 c1 c2 c3 c4 c5 c6 c7; obtain ⟨c0, c1, c2, c3, c4, c5, c6, c7⟩ := (key.kept h2).cfg; replace hb := below_then hb h2; clear h2)
            | (go_at_call_of 29 l; refine (k3 _).mono ?_; rintro e W3 ⟨rfl, h3⟩; obtain rfl := h3.symm)
            | (go_at_call_of 29 v; refine (k4 _).mono ?_; rintro e W4 ⟨rfl, h4⟩; obtain rfl := h4.symm)
            | (go_at_call_of 29 u; refine (k5 _).mono ?_; rintro e W5 ⟨rfl, h5⟩; obtain rfl := h5.symm)
            | (go_at_call_of 29 n; refine (k6 _).mono ?_; rintro e W6 ⟨rfl, h6⟩; obtain rfl := h6.symm))
        go_ret
        exact ⟨rfl, hb⟩
      | true =>
        cases B4 with
        | false =>
          go_enter Try.func9, Try.ntmps9
          go_wp2_with (first
              | (go_at_call 27; refine (k1 _).mono ?_; rintro e W1 ⟨rfl, h1⟩; clear k1; obtain ⟨c0, c1, c2, c3, c4, c5, c6, c7⟩ := (key.kept h1).cfg; replace key := key.kept h1; replace hb := below_then hb h1; clear h1)
              | (go_at_call 28; refine (k2 _).mono ?_; rintro e W2 ⟨rfl, h2⟩; clear k2 c0 c1 c2 c3 c4 c5 c6 c7; obtain ⟨c0, c1, c2, c3, c4, c5, c6, c7⟩ := (key.kept h2).cfg; replace hb := below_then hb h2; clear h2)
              | (go_at_call_of 29 l; refine (k3 _).mono ?_; rintro e W3 ⟨rfl, h3⟩; obtain rfl := h3.symm)
              | (go_at_call_of 29 v; refine (k4 _).mono ?_; rintro e W4 ⟨rfl, h4⟩; obtain rfl := h4.symm)
              | (go_at_call_of 29 u; refine (k5 _).mono ?_; rintro e W5 ⟨rfl, h5⟩; obtain rfl := h5.symm)
              | (go_at_call_of 29 n; refine (k6 _).mono ?_; rintro e W6 ⟨rfl, h6⟩; obtain rfl := h6.symm))
          go_ret
          exact ⟨rfl, hb⟩
        | true =>
          cases B5 with
          | false =>
            go_enter Try.func9, Try.ntmps9
            go_wp2_with (first
                | (go_at_call 27; refine (k1 _).mono ?_; rintro e W1 ⟨rfl, h1⟩; clear k1; obtain ⟨c0, c1, c2, c3, c4, c5, c6, c7⟩ := (key.kept h1).cfg; replace key := key.kept h1; replace hb := below_then hb h1; clear h1)
                | (go_at_call 28; refine (k2 _).mono ?_; rintro e W2 ⟨rfl, h2⟩; clear k2 c0 c1 c2 c3 c4 c5 c6 c7; obtain ⟨c0, c1, c2, c3, c4, c5, c6, c7⟩ := (key.kept h2).cfg; replace hb := below_then hb h2; clear h2)
                | (go_at_call_of 29 l; refine (k3 _).mono ?_; rintro e W3 ⟨rfl, h3⟩; obtain rfl := h3.symm)
                | (go_at_call_of 29 v; refine (k4 _).mono ?_; rintro e W4 ⟨rfl, h4⟩; obtain rfl := h4.symm)
                | (go_at_call_of 29 u; refine (k5 _).mono ?_; rintro e W5 ⟨rfl, h5⟩; obtain rfl := h5.symm)
                | (go_at_call_of 29 n; refine (k6 _).mono ?_; rintro e W6 ⟨rfl, h6⟩; obtain rfl := h6.symm))
            go_ret
            exact ⟨rfl, hb⟩
          | true =>
            cases B6 with
            | false =>
              go_enter Try.func9, Try.ntmps9
              go_wp2_with (first
                  | (go_at_call 27; refine (k1 _).mono ?_; rintro e W1 ⟨rfl, h1⟩; clear k1; obtain ⟨c0, c1, c2, c3, c4, c5, c6, c7⟩ := (key.kept h1).cfg; replace key := key.kept h1; replace hb := below_then hb h1; clear h1)
                  | (go_at_call 28; refine (k2 _).mono ?_; rintro e W2 ⟨rfl, h2⟩; clear k2 c0 c1 c2 c3 c4 c5 c6 c7; obtain ⟨c0, c1, c2, c3, c4, c5, c6, c7⟩ := (key.kept h2).cfg; replace hb := below_then hb h2; clear h2)
                  | (go_at_call_of 29 l; refine (k3 _).mono ?_; rintro e W3 ⟨rfl, h3⟩; obtain rfl := h3.symm)
                  | (go_at_call_of 29 v; refine (k4 _).mono ?_; rintro e W4 ⟨rfl, h4⟩; obtain rfl := h4.symm)
                  | (go_at_call_of 29 u; refine (k5 _).mono ?_; rintro e W5 ⟨rfl, h5⟩; obtain rfl := h5.symm)
                  | (go_at_call_of 29 n; refine (k6 _).mono ?_; rintro e W6 ⟨rfl, h6⟩; obtain rfl := h6.symm))
              go_ret
              exact ⟨rfl, hb⟩
            | true =>
              go_enter Try.func9, Try.ntmps9
              go_wp2_with (first
                  | (go_at_call 27; refine (k1 _).mono ?_; rintro e W1 ⟨rfl, h1⟩; clear k1; obtain ⟨c0, c1, c2, c3, c4, c5, c6, c7⟩ := (key.kept h1).cfg; replace key := key.kept h1; replace hb := below_then hb h1; clear h1)
                  | (go_at_call 28; refine (k2 _).mono ?_; rintro e W2 ⟨rfl, h2⟩; clear k2 c0 c1 c2 c3 c4 c5 c6 c7; obtain ⟨c0, c1, c2, c3, c4, c5, c6, c7⟩ := (key.kept h2).cfg; replace hb := below_then hb h2; clear h2)
                  | (go_at_call_of 29 l; refine (k3 _).mono ?_; rintro e W3 ⟨rfl, h3⟩; obtain rfl := h3.symm)
                  | (go_at_call_of 29 v; refine (k4 _).mono ?_; rintro e W4 ⟨rfl, h4⟩; obtain rfl := h4.symm)
                  | (go_at_call_of 29 u; refine (k5 _).mono ?_; rintro e W5 ⟨rfl, h5⟩; obtain rfl := h5.symm)
                  | (go_at_call_of 29 n; refine (k6 _).mono ?_; rintro e W6 ⟨rfl, h6⟩; obtain rfl := h6.symm))
              go_ret
              exact ⟨rfl, hb⟩

theorem config_call (d h l v u x t n : Int) (w : World) : Calls Try.prog 9 #[.agg #[.int .i64 d, .int .i64 h, .int .i64 l, .int .i64 v, .int .i64 u, .int .i64 x, .int .i64 t, .int .i64 n]] w fun e w' => e = .returned (.bool (okB d h l v u x t n)) ∧ Below w.heap.size w w' :=
  config_walk d h l v u x t n w _ _ _ _ _ _ (rightHeads_call d h l v u x t n) (rightExperts_call d h l v u x t n) (within_call l 1 2) (within_call v 2 16) (within_call u 1 8) (within_call n 0 16)
end

/- What visit reads of a model as it lies in memory, whatever the closure does. -/
section
open Go.ChangeShapes Go.WideShapes Go.ChangeAt Go.RowKit
set_option linter.unusedVariables false

theorem hidden_ {p : Prop} (h : p) : Hid p := h

structure Held (mb cb ln lc ne : Nat) (LA : Addr) (UA DA : Nat → Addr) (uc dc : Nat → Nat) (d v u x : Int) (W : World) : Prop where
  c9 : W.cell? ⟨mb, 9, none⟩ = some (.slice (some LA) ln lc)
  d0 : W.cell? ⟨cb, 0, none⟩ = some (.int .i64 d)
  d3 : W.cell? ⟨cb, 3, none⟩ = some (.int .i64 v)
  d4 : W.cell? ⟨cb, 4, none⟩ = some (.int .i64 u)
  d5 : W.cell? ⟨cb, 5, none⟩ = some (.int .i64 x)
  up : ∀ i, i < ln → W.cell? ⟨(LA.add (i * 9)).block, (LA.add (i * 9)).off + 7, none⟩ = some (.slice (some (UA i)) ne (uc i))
  dn : ∀ i, i < ln → W.cell? ⟨(LA.add (i * 9)).block, (LA.add (i * 9)).off + 8, none⟩ = some (.slice (some (DA i)) ne (dc i))
end

end Go.Proofs.Ytjbeloljbjfibaa
