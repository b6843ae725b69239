/- An adapter's lists one behind the other, and cut again. -/
import Derived.Test.YtbmlafgolmmekabRows
import Derived.Test.YtbmlafgolmmekabView
import Derived.Test.YtbmlafgolmmekabOwn
import Derived.Test.YtbmlafgolmmekabCfg
import Derived.Test.YtbmlafgolmmekabCfgs
import Derived.Test.YtbmlafgolmmekabCfgRef
import Derived.Test.YtbmlafgolmmekabHeld
import Derived.Test.YtbmlafgolmmekabReader
import Derived.Test.YtbmlafgolmmekabSls
import Derived.Test.YtbmlafgolmmekabSteps
import Derived.Test.YtbmlafgolmmekabInv
import Derived.Test.YtbmlafgolmmekabTyped
import Derived.Test.YtbmlafgolmmekabAds
import Derived.Test.YtbmlafgolmmekabRanges
import Derived.WalkKit
import Derived.ProofKit
import Derived.OpenShut
import Derived.Below
import Derived.WalkLawsBesides
import Derived.Deep.QuietTactic
import Derived.BigQuiet
import Derived.Lib.QuietBelow
import Derived.Deep.RegionHeld3
namespace Go.Proofs.Ytbmlafgolmmekab
open Go.ChangeShapes Go.WideShapes Go.ChangeAt Go.RowKit Go.Sort
set_option linter.unusedVariables false


/-- the first k lists one behind the other -/
def flatTo (S : Nat → List Int) (k : Nat) : List Int := (List.range k).flatMap S
theorem flat_succ (S : Nat → List Int) (k : Nat) : flatTo S (k + 1) = flatTo S k ++ S k := by
  simp [flatTo, List.range_succ]
theorem flat_len (S : Nat → List Int) (N T : Nat) (h : ∀ k, k < T → (S k).length = N) (k : Nat) (hk : k ≤ T) : (flatTo S k).length = k * N := by
  induction k with
  | zero => simp [flatTo]
  | succ k ih => rw [flat_succ, List.length_append, ih (by omega), h k (by omega), Nat.add_mul, Nat.one_mul]

/-- an adapter's lists by one number -/
def seqA (m : AdV) (q : Nat) : List Int := m.f (q / 4) (q % 4)
theorem seqA_at (m : AdV) (i j : Nat) (hj : j < 4) : seqA m (4 * i + j) = m.f i j := by
  unfold seqA
  rw [show (4 * i + j) / 4 = i by omega, show (4 * i + j) % 4 = j by omega]
/-- an adapter's weights in order -/
def flatA (m : AdV) : List Int := flatTo (seqA m) (4 * m.ln)

/-- the q-th list of N weights each -/
def segA (N : Nat) (ws : List Int) (q : Nat) : List Int := (ws.drop (q * N)).take N
/-- the adapter of weights -/
def shapeV (ln N : Nat) (ws : List Int) : AdV := ⟨ln, fun i j => segA N ws (4 * i + j)⟩

theorem seg_length (N T : Nat) (ws : List Int) (hl : ws.length = T * N) (q : Nat) (hq : q < T) : (segA N ws q).length = N := by
  unfold segA
  rw [List.length_take, List.length_drop, hl]
  have : (q + 1) * N ≤ T * N := Nat.mul_le_mul_right _ (by omega)
  rw [Nat.add_mul, Nat.one_mul] at this
  omega

/-- lists of one length, one behind the other, cut again -/
theorem seg_flat (S : Nat → List Int) (N T : Nat) (h : ∀ k, k < T → (S k).length = N) (q : Nat) (hq : q < T) : segA N (flatTo S T) q = S q := by
  induction T with
  | zero => omega
  | succ T ih =>
    rw [flat_succ]
    have hl := flat_len S N (T + 1) h T (by omega)
    unfold segA at ih ⊢
    by_cases e : q = T
    · subst e
      rw [List.drop_append, hl, List.drop_eq_nil_of_le (by omega), List.nil_append, show q * N - q * N = 0 by omega, List.drop_zero, List.take_of_length_le (by rw [h q (by omega)]; exact Nat.le_refl _)]
    · have h1 : (q + 1) * N ≤ T * N := Nat.mul_le_mul_right _ (by omega)
      rw [Nat.add_mul, Nat.one_mul] at h1
      rw [List.drop_append, List.take_append_of_le_length (by rw [List.length_drop]; omega)]
      exact ih (fun k hk => h k (by omega)) (by omega)

/-- weights cut into lists, put together again -/
theorem flat_seg (N T : Nat) (ws : List Int) (hl : ws.length = T * N) (k : Nat) (hk : k ≤ T) : flatTo (segA N ws) k = ws.take (k * N) := by
  induction k with
  | zero => simp [flatTo]
  | succ k ih =>
    rw [flat_succ, ih (by omega), Nat.add_mul, Nat.one_mul]
    unfold segA
    rw [List.take_add]

theorem flatTo_congr {S S' : Nat → List Int} {k : Nat} (h : ∀ q, q < k → S q = S' q) : flatTo S k = flatTo S' k := by
  induction k with
  | zero => rfl
  | succ k ih => rw [flat_succ, flat_succ, ih fun q hq => h q (by omega), h k (by omega)]

/-- Flat of Shape -/
theorem flat_shape (ln N : Nat) (ws : List Int) (hl : ws.length = 4 * ln * N) : flatA (shapeV ln N ws) = ws := by
  have e : flatA (shapeV ln N ws) = flatTo (segA N ws) (4 * ln) := flatTo_congr fun q hq => by
    show segA N ws (4 * (q / 4) + q % 4) = _
    rw [show 4 * (q / 4) + q % 4 = q by omega]
  rw [e, flat_seg N (4 * ln) ws hl (4 * ln) (Nat.le_refl _)]
  exact List.take_of_length_le (by rw [hl]; exact Nat.le_refl _)
/-- Shape of Flat -/
theorem shape_flat (m : AdV) (N : Nat) (h : ∀ i, i < m.ln → ∀ j, j < 4 → (m.f i j).length = N) : AgreeA (shapeV m.ln N (flatA m)) m := by
  refine ⟨rfl, fun i hi j hj => ?_⟩
  show segA N (flatTo (seqA m) (4 * m.ln)) (4 * i + j) = m.f i j
  have hi' : i < m.ln := hi
  rw [seg_flat (seqA m) N (4 * m.ln) (fun q hq => h (q / 4) (by omega) (q % 4) (by omega)) (4 * i + j) (by omega)]
  exact seqA_at m i j hj

theorem flatTo_mem {S : Nat → List Int} {k : Nat} {z : Int} (h : z ∈ flatTo S k) : ∃ q, q < k ∧ z ∈ S q := by
  obtain ⟨q, hq, hz⟩ := List.mem_flatMap.1 h
  exact ⟨q, List.mem_range.1 hq, hz⟩

/-- the lists so far, one behind the other, in a row of the call's own -/
def OwnF (B : Nat) (w : World) (v : Value) (S : Nat → List Int) (k : Nat) : Prop := w.ownsRow B 41 1 v (flatTo S k).length ((flatTo S k).map (Value.int .i8))
theorem OwnF.nil (B : Nat) (w : World) (S : Nat → List Int) : OwnF B w (.slice none 0 0) S 0 := World.ownsRow_nil _ _ _ _
theorem OwnF.below {B : Nat} {w w' : World} {v : Value} {S : Nat → List Int} {k : Nat} (h : OwnF B w v S k) (hb : Below w.heap.size w w') : OwnF B w' v S k := (Keeps.of_below hb).own h

theorem wpList_flat {ops : Array Oper} {rest : List Oper} {o : Oper} {a : Act} {w : World} {Q : Exit → Act → World → Prop} (hgd : o.guard = none) (s x : Operand) (ho : o.op = .call { callee := .builtin .append, args := #[s, x], argTypes := #[42, 42] })
    (B k : Nat) (v : Value) (S : Nat → List Int) (q : SL) (hs : a.eval s = v) (hx : a.eval x = .slice q.a q.n q.c) (hO : OwnF B w v S k) (hq : IsS w q (S k)) (hl : (flatTo S (k + 1)).length ≤ 1000000) (hB : B ≤ w.heap.size)
    (h : ∀ v' w', Below B w w' → Keeps 24 w w' → Keeps 47 w w' → OwnF B w' v' S (k + 1) → wpList Try.prog ops Q rest (a.put o.dst v') w') : wpList Try.prog ops Q (o :: rest) a w := by
  obtain ⟨i0, hi, hz0, hz1, hz2⟩ := i41'
  have hlen := hq.reads.len
  have e : (flatTo S (k + 1)).length = (flatTo S k).length + q.n := by rw [flat_succ, List.length_append, hlen]
  refine wpList_copy (by simp [Region.wanted, hgd]) s x 42 ho B 41 i0 (.int .i8 0) 1 Try.underlying42 hi hz0 hz1 hz2 rfl v _ _ hs hO .i8 q.a q.n q.c (S k) hx hq.reads hq.nil (by unfold maxLen; omega) (by omega) hB ?_
  intro v' w' ho' hg
  refine h v' w' ((Below.refl B w).grown hg hB fun g h => (World.ownsRow.lt hO g h).1) (Keeps.of_own hg hO (by decide)) (Keeps.of_own hg hO (by decide)) ?_
  unfold OwnF
  rw [e, flat_succ, List.map_append]
  exact ho'

theorem World.ownsRow.cases' {w : World} {B n c : Nat} {a : Option Addr} {xs : List Value} (h : w.ownsRow B 41 1 (.slice a n c) n xs) : (c = 0 ∧ n = 0) ∨ ∃ g : Nat, n ≤ c ∧ a = some ⟨g, 0, none⟩ := by
  rcases h.2 with ⟨h1, h2⟩ | ⟨g, cap, cur, h1, _, _, hn, _⟩
  · simp only [Value.slice.injEq] at h1
    exact .inl ⟨h1.2.2, h2⟩
  · simp only [Value.slice.injEq] at h1
    exact .inr ⟨g, by omega, h1.1⟩

theorem ownF_is {B : Nat} {w : World} {v : Value} {S : Nat → List Int} {k : Nat} (h : OwnF B w v S k) (hl : (flatTo S k).length ≤ 1000000) (hw : ∀ z ∈ flatTo S k, (Lit.int .i8 z).wf = true) : ∃ q : SL, v = .slice q.a q.n q.c ∧ IsS w q (flatTo S k) := by
  obtain ⟨a, c, e, hre⟩ := own_reads (k := .i8) h rfl hw (fun j hj => copy_at .i8 _ j hj)
  subst e
  refine ⟨⟨a, _, c⟩, rfl, hre, ?_, ?_⟩
  · rcases World.ownsRow.cases' h with ⟨h1, h2⟩ | ⟨g, h1, h2⟩
    · intro _; exact h1
    · intro e; have e' : a = none := e; rw [e'] at h2; cases h2
  · rcases World.ownsRow.cases' h with ⟨h1, h2⟩ | ⟨g, h1, h2⟩
    · show (flatTo S k).length ≤ c; omega
    · exact h1

theorem flatA_wf {w : World} {L : SL} {Y : Nat → Nat → SL} {m : AdV} (hM : AdAt w L Y m) : ∀ z ∈ flatA m, (Lit.int .i8 z).wf = true := by
  intro z hz
  obtain ⟨q, hq, hz⟩ := flatTo_mem hz
  exact (hM.lay (q / 4) (by omega) (q % 4) (by omega)).reads.wf_mem z hz

end Go.Proofs.Ytbmlafgolmmekab
