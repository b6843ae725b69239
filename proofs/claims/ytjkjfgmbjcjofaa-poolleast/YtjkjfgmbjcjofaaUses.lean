/- Pages that are only taken for one tag and dropped, and a row that remembers which are used. -/
import Derived.Test.YtjkjfgmbjcjofaaRows
import Derived.Test.YtjkjfgmbjcjofaaPages
import Derived.Test.YtjkjfgmbjcjofaaView
import Derived.Test.YtjkjfgmbjcjofaaOwn
import Derived.Test.YtjkjfgmbjcjofaaReadsP
import Derived.Test.YtjkjfgmbjcjofaaReadsQ
import Derived.Test.YtjkjfgmbjcjofaaLeast
import Derived.Test.YtjkjfgmbjcjofaaLays
import Derived.Test.YtjkjfgmbjcjofaaTurns
import Derived.Test.YtjkjfgmbjcjofaaNews
import Derived.Test.YtjkjfgmbjcjofaaGoods
import Derived.WalkKit
import Derived.ProofKit
import Derived.OpenShut
import Derived.Below
import Derived.WalkLawsBesides
import Derived.Deep.QuietTactic
import Derived.BigQuiet
import Derived.Deep.OwnRows
namespace Go.Proofs.Ytjkjfgmbjcjofaa
open Go.ChangeShapes Go.WideShapes Go.ChangeAt Go.RowKit
set_option linter.unusedVariables false

def tX : ByteArray := ⟨#[120]⟩
def tY : ByteArray := ⟨#[121]⟩
theorem tX_ne : ¬ tX.toList = [] := by simp [tX, ByteArray.toList_eq]

/-- which pages have owners -/
def usedF (s : Pl) : Nat → Bool := fun j => decide ((s.pg j).ow ≠ 0)

/-- a pool in which pages are only taken, for one tag, and dropped -/
structure Lst (N : Nat) (s : Pl) : Prop where
  good : Good 1 s
  n : s.n = N
  aside : s.aside = 0
  tags : ∀ j, j < N → (s.pg j).ow ≠ 0 → (s.pg j).tag = tX

theorem lst_new (N : Nat) (h0 : 1 ≤ N) (h1 : N ≤ 256) : Lst N (newPl N) := ⟨good_new N 1 h0 h1, rfl, rfl, fun j hj h => absurd rfl h⟩
theorem usedF_new (N : Nat) : usedF (newPl N) = fun _ => false := by
  funext j
  simp [usedF, newPl]

theorem lst_drop {N : Nat} {s : Pl} (h : Lst N s) (Q : Nat) (hQ : Q < N) : Lst N (drS s Q) ∧ usedF (drS s Q) = upd (usedF s) Q false ∧ decide (shE s Q = 0) = usedF s Q := by
  have hn := h.n
  have g0 := h.good.ow0 Q (by omega)
  have g1 := h.good.ow1 Q (by omega)
  have gd := h.good.drS Q
  unfold drS at gd ⊢
  unfold shE
  by_cases e : (s.pg Q).ow = 0
  · have hu : usedB s Q = false := by
      simp only [usedB, decide_eq_false_iff_not]
      exact fun x => x.2.2 (by rw [Int.toNat_natCast]; exact e)
    rw [if_neg (by rw [hu]; decide), if_neg (by rw [hu]; decide)]
    refine ⟨h, ?_, by simp [usedF, e]⟩
    funext j
    by_cases ej : j = Q
    · subst ej
      rw [upd_same]
      simp [usedF, e]
    · rw [upd_other _ _ _ _ ej]
  · have hu : usedB s Q = true := by
      simp only [usedB, decide_eq_true_eq]
      exact ⟨by omega, by omega, by rw [Int.toNat_natCast]; exact e⟩
    rw [if_pos hu] at gd
    rw [if_pos hu, if_pos hu]
    simp only [Int.toNat_natCast] at gd ⊢
    have e1 : (s.pg Q).ow - 1 = 0 := by omega
    have ed : (dropPg (s.pg Q)).ow = 0 := by unfold dropPg; rw [if_pos e1]
    refine ⟨⟨gd, hn, h.aside, fun j hj => ?_⟩, ?_, by simp [usedF, e]⟩
    · show (upd s.pg Q (dropPg (s.pg Q)) j).ow ≠ 0 → (upd s.pg Q (dropPg (s.pg Q)) j).tag = tX
      by_cases ej : j = Q
      · subst ej
        rw [upd_same]
        exact fun x => absurd ed x
      · rw [upd_other _ _ _ _ ej]
        exact h.tags j hj
    · funext j
      show decide ((upd s.pg Q (dropPg (s.pg Q)) j).ow ≠ 0) = _
      by_cases ej : j = Q
      · subst ej
        rw [upd_same, upd_same]
        simp [ed]
      · rw [upd_other _ _ _ _ ej, upd_other _ _ _ _ ej]
        rfl

theorem tk_mem (p : Nat → Pg) (k i x : Nat) : (x : Int) ∈ tk p k i ↔ x < i ∧ (p x).ow = 0 ∧ (tk p k x).length < k := by
  induction i with
  | zero => simp [tk]
  | succ i ih =>
    by_cases c : (p i).ow = 0 ∧ (tk p k i).length < k
    · rw [tk_yes p k i c.1 c.2, List.mem_append, ih]
      constructor
      · rintro (h | h)
        · exact ⟨by omega, h.2⟩
        · simp only [List.mem_singleton, Int.natCast_inj] at h
          subst h
          exact ⟨by omega, c⟩
      · rintro ⟨h1, h2⟩
        by_cases e : x = i
        · exact .inr (by simp [e])
        · exact .inl ⟨by omega, h2⟩
    · rw [tk_no p k i c, ih]
      constructor
      · exact fun h => ⟨by omega, h.2⟩
      · rintro ⟨h1, h2⟩
        refine ⟨?_, h2⟩
        by_cases e : x = i
        · subst e
          exact absurd h2 c
        · omega

theorem lst_take {N : Nat} {s : Pl} (h : Lst N s) (K : Nat) (hK : K ≤ freeTo s.pg N) : takeE s tX K = 0 ∧ takeR s tX K = tk s.pg K N ∧ Lst N (takeS s tX K) ∧ ∀ j, j < N → usedF (takeS s tX K) j = (usedF s j || decide ((j : Int) ∈ tk s.pg K N)) := by
  have hn := h.n
  have e : takeE s tX K = 0 := by
    unfold takeE
    rw [if_neg (fun x => x.elim tX_ne (by omega)), if_neg (by rw [hn, h.aside]; omega)]
  have gd := h.good.takeS (Nat.le_refl _) tX K
  unfold takeR
  unfold takeS at gd ⊢
  rw [if_pos e] at gd
  rw [if_pos e, if_pos e]
  simp only [Int.toNat_natCast] at gd ⊢
  rw [hn] at gd ⊢
  refine ⟨e, rfl, ⟨gd, rfl, h.aside, fun j hj => ?_⟩, fun j hj => ?_⟩
  · show (takeP s.pg tX K N j).ow ≠ 0 → (takeP s.pg tX K N j).tag = tX
    rcases takeP_ow s.pg tX K N j with e | e <;> rw [e]
    · exact fun _ => rfl
    · exact h.tags j hj
  · show decide ((takeP s.pg tX K N j).ow ≠ 0) = _
    unfold takeP usedF
    by_cases c : j < N ∧ (s.pg j).ow = 0 ∧ (tk s.pg K j).length < K
    · rw [if_pos c]
      have := (tk_mem s.pg K N j).2 c
      simp [newPg, this]
    · rw [if_neg c]
      have : ¬ (j : Int) ∈ tk s.pg K N := fun x => c ((tk_mem s.pg K N j).1 x)
      simp [this]
theorem lst_few {N : Nat} {s : Pl} (h : Lst N s) (K : Nat) (hK : freeTo s.pg N < K) : takeE s tX K = 6 ∧ takeR s tX K = [] ∧ takeS s tX K = s := by
  have e : takeE s tX K = 6 := by
    unfold takeE
    rw [if_neg (fun x => x.elim tX_ne (by omega)), if_pos (by rw [h.n, h.aside]; omega)]
  refine ⟨e, ?_, ?_⟩
  · unfold takeR
    rw [if_neg (by rw [e]; decide)]
  · unfold takeS
    rw [if_neg (by rw [e]; decide)]

theorem lst_cnt {N : Nat} {s : Pl} (h : Lst N s) (i : Nat) (hi : i ≤ N) : cntTo s.pg tY i = 0 := by
  induction i with
  | zero => rfl
  | succ i ih =>
    simp only [cntTo]
    rw [ih (by omega), if_neg]
    rintro ⟨h1, h2⟩
    rw [h.tags i (by omega) (by omega)] at h2
    simp [tX, tY, ByteArray.toList_eq] at h2

/-- which pages are used, as the law itself remembers it -/
structure UsedAt (B : Nat) (w : World) (u N : Nat) (f : Nat → Bool) : Prop where
  Bu : B ≤ u
  row : Row 4 w u N
  cell : ∀ j, j < N → w.cell? ⟨u, j, none⟩ = some (.bool (f j))

theorem UsedAt.of_block {B : Nat} {w w' : World} {u N : Nat} {f : Nat → Bool} (h : UsedAt B w u N f) (e : w'.heap[u]? = w.heap[u]?) : UsedAt B w' u N f := ⟨h.Bu, h.row.of_block e, fun j hj => (cell_of_block e j).trans (h.cell j hj)⟩
theorem UsedAt.off {B B' : Nat} {T : TypeId → Bool} {w w' : World} {u N : Nat} {f : Nat → Bool} (h : UsedAt B w u N f) (o : Off B' T w w') (hT : T 4 = false) : UsedAt B w' u N f := h.of_block (o.row h.row hT)
theorem UsedAt.below {B : Nat} {w w' : World} {u N : Nat} {f : Nat → Bool} (h : UsedAt B w u N f) (o : Below w.heap.size w w') : UsedAt B w' u N f := h.of_block (o.block u h.row.lt)
def T4 (t : TypeId) : Bool := t == 4
theorem UsedAt.set {B : Nat} {w : World} {u N : Nat} {f : Nat → Bool} (h : UsedAt B w u N f) (j : Nat) (hj : j < N) (z : Bool) : UsedAt B (w.setCell ⟨u, j, none⟩ (.bool z)) u N (upd f j z) ∧ Off B T4 w (w.setCell ⟨u, j, none⟩ (.bool z)) := by
  refine ⟨⟨h.Bu, h.row.set _ _, fun i hi => ?_⟩, Off.set h.row h.Bu rfl _ _⟩
  by_cases e : i = j
  · subst e
    rw [upd_same]
    exact World.cell?_setCell_same _ _ _ (h.cell i hi)
  · rw [upd_other _ _ _ _ e]
    exact (World.cell?_setCell_other _ _ _ _ (by simp <;> omega)).trans (h.cell i hi)
theorem UsedAt.congr {B : Nat} {w : World} {u N : Nat} {f f' : Nat → Bool} (h : UsedAt B w u N f) (e : ∀ j, j < N → f j = f' j) : UsedAt B w u N f' := ⟨h.Bu, h.row, fun j hj => by rw [← e j hj]; exact h.cell j hj⟩

theorem info4 : (Try.prog.info? 4).map (fun i => (i.zero, i.size, i.bytes)) = some (some (.bool false), 1, 1) := by kernel_rfl
def falses (n : Nat) : Obj := .cells (madeCells #[.bool false] n) 4
theorem made4 (n : Nat) (hn : n ≤ 256) (w : World) : (Instr.makeSlice 50 (.int .i64 (n : Int)) (.int .i64 (n : Int))).run Try.prog w = .ok (.slice (some ⟨w.heap.size, 0, none⟩) n n) (w.alloc (falses n)) :=
  run_make_row' 50 4 (.bool false) 1 Try.underlying50 info4 rfl .i64 .i64 n (by omega) (by omega) w
theorem used_new (B : Nat) (w : World) (N : Nat) (hB : B ≤ w.heap.size) : UsedAt B (w.alloc (falses N)) w.heap.size N (fun _ => false) := by
  have e : (w.alloc (falses N)).heap[w.heap.size]? = some (falses N) := heap_alloc_new w _
  refine ⟨hB, ⟨_, e, size_madeCells _ _⟩, fun j hj => ?_⟩
  unfold World.cell?
  rw [e]
  simp [falses, madeCells, hj, Nat.mod_one]

end Go.Proofs.Ytjkjfgmbjcjofaa
