/- A row of rows that is laid and appended to three times: what holds between the operations. -/
import Derived.Test.YthbddbipmoflfaaRows
import Derived.Test.YthbddbipmoflfaaView
import Derived.Test.YthbddbipmoflfaaOwn
import Derived.Test.YthbddbipmoflfaaWhere
import Derived.Test.YthbddbipmoflfaaWorks
import Derived.Test.YthbddbipmoflfaaSoft
import Derived.Test.YthbddbipmoflfaaMean
import Derived.Test.YthbddbipmoflfaaGrids
import Derived.Test.YthbddbipmoflfaaInvIn
import Derived.Test.YthbddbipmoflfaaAtReg
import Derived.Test.YthbddbipmoflfaaAtTwo
import Derived.WalkKit
import Derived.ProofKit
import Derived.OpenShut
import Derived.Below
import Derived.WalkLawsBesides
import Derived.Deep.QuietTactic
import Derived.BigQuiet
namespace Go.Proofs.Ythbddbipmoflfaa
open Go.ChangeShapes Go.WideShapes Go.ChangeAt Go.RowKit
set_option linter.unusedVariables false
set_option linter.unusedSimpArgs false

theorem run_append_wherem {P : Program} (w : World) (base : Nat) (t ty e : TypeId) (i : TypeInfo) (z : Value) (bytes : Nat) (ht : P.underlying t = some (.slice e)) (hi : P.info? e = some i) (hz : i.zero = some z)
    (hsize : i.size = 1) (hby : i.bytes = bytes) (hzs : z.cells.size = 1) (v : Value) (n : Nat) (xs : List Value) (hown : w.ownsRow base e 1 v n xs)
    (ad : Addr) (m c : Nat) (news : List Value) (hl : news.length = m) (hnews : ∀ j u, news[j]? = some u → w.cell? (ad.add j) = some u) (h1 : ∀ u ∈ news, u.oneCell' = true)
    (h63 : n + m ≤ maxLen) (hbytes : (n + m) * bytes ≤ 140737488355328) (hbase : base ≤ w.heap.size) :
    ∃ v' w', (Builtin.append_ #[t, t] ty #[v, .slice (some ad) m c]).run P w = .ok v' w' ∧ w'.ownsRow base e 1 v' (n + m) (xs ++ news) ∧ w.grownBy w' v.ownBlock ∧ Stays w v v' := by
  have weak : ∀ {w' : World} {v' : Value} {cs : List Value}, w'.ownsRow w.heap.size e 1 v' (n + m) cs → w'.ownsRow base e 1 v' (n + m) cs ∧ Stays w v v' := by
    intro w' v' cs h
    refine ⟨⟨h.1, ?_⟩, .inr fun g hg => (h.lt g hg).1⟩
    rcases h.2 with h2 | ⟨g, cap, cur, hv, hg, r⟩
    · exact .inl h2
    · exact .inr ⟨g, cap, cur, hv, by omega, r⟩
  rcases hown.2 with ⟨rfl, rfl⟩ | ⟨g, cap, cur, rfl, hg, hh, hn, hm, hs, htake⟩
  · obtain rfl : xs = [] := List.eq_nil_of_length_eq_zero (by simpa using hown.1)
    obtain ⟨v', w', hr, h2, h3, _⟩ := run_append_own (P := P) w w.heap.size t ty e i z 1 bytes ht hi hz hsize hby hzs (by decide) (.slice none 0 0) 0 [] (World.ownsRow_nil w _ e 1) ad m c news (by omega) hnews h1 h63 hbytes (Nat.le_refl _)
    exact ⟨v', w', hr, (weak h2).1, h3, (weak h2).2⟩
  · by_cases hfit : n + m ≤ cap
    · obtain ⟨w', hr, h2, h3⟩ := run_append_fits (P := P) w base t ty e i 1 ht hi hsize g n cap xs hown ad m c news (by omega) hnews h1 hfit
      exact ⟨_, w', hr, h2, h3, .inl rfl⟩
    · obtain ⟨v', w', hr, h2, h3⟩ := run_append_arg_grows (P := P) w t ty e i z 1 bytes ht hi hz hsize hby hzs (by decide) ⟨g, 0, none⟩ n cap xs hown.1 (hown.cells rfl) ad m c news (by omega) hnews (by omega) h63 hbytes
      exact ⟨v', w', hr, (weak h2).1, ⟨h3.os, h3.tape, h3.output, h3.size, fun k hk _ => h3.block k hk (by simp)⟩, (weak h2).2⟩

theorem run_build0 (w : World) : (Instr.buildSlice 23 0 #[]).run Try.prog w = .ok (.slice (some ⟨w.heap.size, 0, none⟩) 0 0) (w.alloc (.cells #[] 22)) := by go_simp
theorem run_front23 (x : Addr) (n c h : Nat) (h1 : h ≤ c) (w : World) : (Instr.sliceAt 23 (.slice (some x) n c) none (some (.int .i64 h)) none).run Try.prog w = .ok (.slice (some x) h c) w := by
  go_simp
theorem run_back23 (x : Addr) (n c h : Nat) (h1 : h ≤ n) (h2 : n ≤ c) : ∃ X : Addr, (∀ w, (Instr.sliceAt 23 (.slice (some x) n c) (some (.int .i64 h)) none none).run Try.prog w = .ok (.slice (some X) (n - h) (c - h)) w) ∧ (h < n → X = x.add h) := by
  by_cases e : h = c
  · subst e
    obtain rfl : n = h := by omega
    exact ⟨x, fun w => by go_simp, fun h => by omega⟩
  · have e' : ¬ c = h := fun h => e h.symm
    exact ⟨x.add h, fun w => by go_simp, fun _ => rfl⟩

/-- one row, laid and appended to three times: what holds between the operations -/
def ChainR (I0 A1 L A2 A3 E s0 s1 t s2 s3 r : Nat) (B : Nat) (W0 : World) (m1 : Nat) (X1 : List Value) (V : Value) (m3 : Nat) (X3 : List Value) (l : Nat → Bool) (a : Act) (w : World) : Prop :=
  ∃ v, Below B W0 w ∧ B ≤ w.heap.size ∧
    w.ownsRow B 22 1 v ((if l A1 = true then m1 else 0) + (if l A2 = true then 1 else 0) + (if l A3 = true then m3 else 0)) ((if l A1 = true then X1 else []) ++ (if l A2 = true then [V] else []) ++ (if l A3 = true then X3 else [])) ∧
    (if l A3 = true then a.tmps.getD s3 undef = v else if l A2 = true then a.tmps.getD s2 undef = v else if l A1 = true then a.tmps.getD s1 undef = v else if l I0 = true then a.tmps.getD s0 undef = v else v = .slice none 0 0) ∧
    (l L = true → LitAt w (a.tmps.getD t undef) V v (.slice none 0 0)) ∧ (l E = true → a.tmps.getD r undef = v)

variable {I0 A1 L A2 A3 E s0 s1 t s2 s3 r : Nat} {B : Nat} {W0 : World} {m1 : Nat} {X1 : List Value} {V : Value} {m3 : Nat} {X3 : List Value} {l : Nat → Bool} {a : Act} {w : World}

theorem ChainR.start (h1 : Below B W0 w) (h2 : B ≤ w.heap.size) : ChainR I0 A1 L A2 A3 E s0 s1 t s2 s3 r B W0 m1 X1 V m3 X3 (fun _ => false) a w :=
  ⟨.slice none 0 0, h1, h2, by simpa using World.ownsRow_nil w B 22 1, by simp, fun h => (by cases h), fun h => (by cases h)⟩

theorem ChainR.pure (h : ChainR I0 A1 L A2 A3 E s0 s1 t s2 s3 r B W0 m1 X1 V m3 X3 l a w) {i d : Nat} {x : Value} (hd : d < a.tmps.size) (hi : i ≠ I0 ∧ i ≠ A1 ∧ i ≠ L ∧ i ≠ A2 ∧ i ≠ A3 ∧ i ≠ E) (hs : d ≠ s0 ∧ d ≠ s1 ∧ d ≠ t ∧ d ≠ s2 ∧ d ≠ s3 ∧ d ≠ r) :
    ChainR I0 A1 L A2 A3 E s0 s1 t s2 s3 r B W0 m1 X1 V m3 X3 (fun j => l j || j == i) (a.put (some d) x) w := by
  obtain ⟨v, h1, h2, h3, h4, h5, h6⟩ := h
  refine ⟨v, h1, h2, ?_, ?_, ?_, ?_⟩
  · simp only [ne_or hi.2.1, ne_or hi.2.2.2.1, ne_or hi.2.2.2.2.1]
    exact h3
  · simp only [ne_or hi.1, ne_or hi.2.1, ne_or hi.2.2.2.1, ne_or hi.2.2.2.2.1, get_put a d x _ hd, if_neg (Ne.symm hs.1), if_neg (Ne.symm hs.2.1), if_neg (Ne.symm hs.2.2.2.1), if_neg (Ne.symm hs.2.2.2.2.1)]
    exact h4
  · simp only [ne_or hi.2.2.1, get_put a d x _ hd, if_neg (Ne.symm hs.2.2.1)]
    exact h5
  · simp only [ne_or hi.2.2.2.2.2, get_put a d x _ hd, if_neg (Ne.symm hs.2.2.2.2.2)]
    exact h6

theorem LitAt.alloc {q V v v' : Value} (h : LitAt w q V v v') (o : Obj) : LitAt (w.alloc o) q V v v' := by
  obtain ⟨g, g1, g2, g3, g4⟩ := h
  exact ⟨g, g1, by rw [World.cell?_alloc_past _ _ _ (by simpa using World.block_lt_of_cell? w _ g2)]; exact g2, g3, g4⟩

/-- the row is laid -/
theorem ChainR.init (h : ChainR I0 A1 L A2 A3 E s0 s1 t s2 s3 r B W0 m1 X1 V m3 X3 l a w) (hd : s0 < a.tmps.size) (hA : l A1 = false ∧ l A2 = false ∧ l A3 = false ∧ l E = false) (hi : I0 ≠ A1 ∧ I0 ≠ L ∧ I0 ≠ A2 ∧ I0 ≠ A3 ∧ I0 ≠ E) (hs : s0 ≠ t) :
    ChainR I0 A1 L A2 A3 E s0 s1 t s2 s3 r B W0 m1 X1 V m3 X3 (fun j => l j || j == I0) (a.put (some s0) (.slice (some ⟨w.heap.size, 0, none⟩) 0 0)) (w.alloc (.cells #[] 22)) := by
  obtain ⟨v, h1, h2, h3, h4, h5, h6⟩ := h
  refine ⟨.slice (some ⟨w.heap.size, 0, none⟩) 0 0, h1.alloc h2 _, by show B ≤ (w.heap.push _).size; simp; omega, ?_, ?_, ?_, ?_⟩
  · simp only [ne_or hi.1, ne_or hi.2.2.1, ne_or hi.2.2.2.1]
    simp only [hA.1, hA.2.1, hA.2.2.1, Bool.false_eq_true, if_false]
    exact World.ownsRow_lit (size := 1) w #[] 0 h2 (by decide) rfl
  · simp only [ne_or hi.1, ne_or hi.2.2.1, ne_or hi.2.2.2.1]
    simp only [hA.1, hA.2.1, hA.2.2.1, Bool.false_eq_true, if_false, beq_self_eq_true, Bool.or_true, if_true, get_put a s0 _ _ hd]
  · simp only [ne_or hi.2.1, get_put a s0 _ _ hd, if_neg (Ne.symm hs)]
    intro hl
    obtain ⟨g, g1, g2, g3, g4⟩ := (h5 hl).alloc (.cells #[] 22)
    refine ⟨g, g1, g2, fun e => ?_, g4⟩
    obtain ⟨g', g1', g2', _⟩ := h5 hl
    have e1 : g = g' := by rw [g1] at g1'; simpa using g1'
    have := World.block_lt_of_cell? w _ g2'
    simp [Value.ownBlock] at e this
    omega
  · simp only [ne_or hi.2.2.2.2]
    simp only [hA.2.2.2]
    intro h
    cases h

/-- the new cell is laid -/
theorem ChainR.lit (h : ChainR I0 A1 L A2 A3 E s0 s1 t s2 s3 r B W0 m1 X1 V m3 X3 l a w) (hd : t < a.tmps.size) (hi : L ≠ I0 ∧ L ≠ A1 ∧ L ≠ A2 ∧ L ≠ A3 ∧ L ≠ E) (hs : t ≠ s0 ∧ t ≠ s1 ∧ t ≠ s2 ∧ t ≠ s3 ∧ t ≠ r) :
    ChainR I0 A1 L A2 A3 E s0 s1 t s2 s3 r B W0 m1 X1 V m3 X3 (fun j => l j || j == L) (a.put (some t) (.slice (some ⟨w.heap.size, 0, none⟩) 1 1)) (w.alloc (.cells #[V] 22)) := by
  obtain ⟨v, h1, h2, h3, h4, h5, h6⟩ := h
  refine ⟨v, h1.alloc h2 _, by show B ≤ (w.heap.push _).size; simp; omega, ?_, ?_, ?_, ?_⟩
  · simp only [ne_or hi.2.1, ne_or hi.2.2.1, ne_or hi.2.2.2.1]
    exact h3.alloc _
  · simp only [ne_or hi.1, ne_or hi.2.1, ne_or hi.2.2.1, ne_or hi.2.2.2.1, get_put a t _ _ hd, if_neg (Ne.symm hs.1), if_neg (Ne.symm hs.2.1), if_neg (Ne.symm hs.2.2.1), if_neg (Ne.symm hs.2.2.2.1)]
    exact h4
  · simp only [get_put a t _ _ hd, if_true]
    exact fun _ => ⟨w.heap.size, rfl, cell_of_one (heap_alloc_new w _), fun e => by have := (h3.lt _ e).2; omega, fun e => by cases e⟩
  · simp only [ne_or hi.2.2.2.2, get_put a t _ _ hd, if_neg (Ne.symm hs.2.2.2.2)]
    exact h6

theorem ChainR.app1 (h : ChainR I0 A1 L A2 A3 E s0 s1 t s2 s3 r B W0 m1 X1 V m3 X3 l a w) (hd : s1 < a.tmps.size) (hI : l I0 = true) (hA : l A1 = false ∧ l A2 = false ∧ l A3 = false ∧ l E = false) (hi : A1 ≠ I0 ∧ A1 ≠ L ∧ A1 ≠ A2 ∧ A1 ≠ A3 ∧ A1 ≠ E) (hs : s1 ≠ t)
    {ad : Addr} (c : Nat) (hl : X1.length = m1) (hX : ∀ i u, X1[i]? = some u → w.cell? (ad.add i) = some u) (hV : ∀ u ∈ X1, u.oneCell' = true) (hn : m1 ≤ 1000) (ty : TypeId) :
    ∃ v' w', (Builtin.append_ #[23, 23] ty #[a.tmps.getD s0 undef, .slice (some ad) m1 c]).run Try.prog w = .ok v' w' ∧
      ChainR I0 A1 L A2 A3 E s0 s1 t s2 s3 r B W0 m1 X1 V m3 X3 (fun j => l j || j == A1) (a.put (some s1) v') w' := by
  obtain ⟨j0, hj, hy0, hy1, hy2⟩ := info_parts info22
  obtain ⟨v, h1, h2, h3, h4, h5, h6⟩ := h
  simp only [hA.1, hA.2.1, hA.2.2.1, Bool.false_eq_true, if_false, hI, if_true] at h3 h4
  obtain ⟨v', w', hr, ho, hg, hst⟩ := run_append_wherem (P := Try.prog) w B 23 ty 22 j0 (.slice none 0 0) 24 Try.underlying23 hj hy0 hy1 hy2 rfl v 0 [] h3 ad m1 c X1 hl hX hV (by unfold maxLen; omega) (by omega) h2
  refine ⟨v', w', by rw [h4]; exact hr, v', h1.grown hg h2 (fun k hk => (h3.lt k hk).1), Nat.le_trans h2 hg.size, ?_, ?_, ?_, ?_⟩
  · simp only [ne_or hi.2.2.1, ne_or hi.2.2.2.1]
    simp only [hA.2.1, hA.2.2.1, Bool.false_eq_true, if_false, beq_self_eq_true, Bool.or_true, if_true, Nat.add_zero, List.append_nil]
    simpa using ho
  · simp only [ne_or hi.2.2.1, ne_or hi.2.2.2.1]
    simp only [hA.2.1, hA.2.2.1, Bool.false_eq_true, if_false, beq_self_eq_true, Bool.or_true, if_true, get_put a s1 _ _ hd]
  · simp only [ne_or hi.2.1, get_put a s1 _ _ hd, if_neg (Ne.symm hs)]
    exact fun hl => LitAt.grown (n := 0) (xs := []) (h5 hl) hg hst
  · simp only [ne_or hi.2.2.2.2]
    simp only [hA.2.2.2]
    intro h
    cases h

theorem ChainR.app2 (h : ChainR I0 A1 L A2 A3 E s0 s1 t s2 s3 r B W0 m1 X1 V m3 X3 l a w) (hd : s2 < a.tmps.size) (hI : l A1 = true) (hL : l L = true) (hA : l A2 = false ∧ l A3 = false ∧ l E = false) (hi : A2 ≠ A1 ∧ A2 ≠ L ∧ A2 ≠ A3 ∧ A2 ≠ E) (hs : s2 ≠ t)
    (hV : V.oneCell' = true) (hn : m1 ≤ 1000) (ty : TypeId) :
    ∃ g v' w', a.tmps.getD t undef = .slice (some ⟨g, 0, none⟩) 1 1 ∧ (Builtin.append_ #[23, 23] ty #[a.tmps.getD s1 undef, .slice (some ⟨g, 0, none⟩) 1 1]).run Try.prog w = .ok v' w' ∧
      ChainR I0 A1 L A2 A3 E s0 s1 t s2 s3 r B W0 m1 X1 V m3 X3 (fun j => l j || j == A2) (a.put (some s2) v') w' := by
  obtain ⟨j0, hj, hy0, hy1, hy2⟩ := info_parts info22
  obtain ⟨v, h1, h2, h3, h4, h5, h6⟩ := h
  simp only [hA.1, hA.2.1, Bool.false_eq_true, if_false, hI, if_true, Nat.add_zero, List.append_nil] at h3 h4
  obtain ⟨g, g1, g2, g3, g4⟩ := h5 hL
  obtain ⟨v', w', hr, ho, hg, hst⟩ := run_append_wherem (P := Try.prog) w B 23 ty 22 j0 (.slice none 0 0) 24 Try.underlying23 hj hy0 hy1 hy2 rfl v m1 X1 h3 ⟨g, 0, none⟩ 1 1 [V] rfl (fun j u hu => by
    match j, hu with
    | 0, hu => simp at hu; subst hu; simpa [Addr.add] using g2) (by intro u hu; simp at hu; subst hu; exact hV) (by unfold maxLen; omega) (by omega) h2
  refine ⟨g, v', w', g1, by rw [h4]; exact hr, v', h1.grown hg h2 (fun k hk => (h3.lt k hk).1), Nat.le_trans h2 hg.size, ?_, ?_, ?_, ?_⟩
  · simp only [ne_or hi.1, ne_or hi.2.2.1]
    simp only [hI, hA.2.1, Bool.false_eq_true, if_false, beq_self_eq_true, Bool.or_true, if_true, Nat.add_zero, List.append_nil]
    exact ho
  · simp only [ne_or hi.2.2.1]
    simp only [hA.2.1, Bool.false_eq_true, if_false, beq_self_eq_true, Bool.or_true, if_true, get_put a s2 _ _ hd]
  · simp only [ne_or hi.2.1, get_put a s2 _ _ hd, if_neg (Ne.symm hs)]
    exact fun hl => LitAt.grown (n := 0) (xs := []) (h5 hl) hg hst
  · simp only [ne_or hi.2.2.2]
    simp only [hA.2.2]
    intro h
    cases h

theorem ChainR.app3 (h : ChainR I0 A1 L A2 A3 E s0 s1 t s2 s3 r B W0 m1 X1 V m3 X3 l a w) (hd : s3 < a.tmps.size) (hI : l A1 = true) (hJ : l A2 = true) (hA : l A3 = false ∧ l E = false) (hi : A3 ≠ A1 ∧ A3 ≠ L ∧ A3 ≠ A2 ∧ A3 ≠ E) (hs : s3 ≠ t)
    {ad : Addr} (c : Nat) (hl : X3.length = m3) (hX : ∀ i u, X3[i]? = some u → w.cell? (ad.add i) = some u) (hV : ∀ u ∈ X3, u.oneCell' = true) (hn : m1 + 1 + m3 ≤ 1000) (ty : TypeId) :
    ∃ v' w', (Builtin.append_ #[23, 23] ty #[a.tmps.getD s2 undef, .slice (some ad) m3 c]).run Try.prog w = .ok v' w' ∧
      ChainR I0 A1 L A2 A3 E s0 s1 t s2 s3 r B W0 m1 X1 V m3 X3 (fun j => l j || j == A3) (a.put (some s3) v') w' := by
  obtain ⟨j0, hj, hy0, hy1, hy2⟩ := info_parts info22
  obtain ⟨v, h1, h2, h3, h4, h5, h6⟩ := h
  simp only [hA.1, Bool.false_eq_true, if_false, hI, hJ, if_true, Nat.add_zero, List.append_nil] at h3 h4
  obtain ⟨v', w', hr, ho, hg, hst⟩ := run_append_wherem (P := Try.prog) w B 23 ty 22 j0 (.slice none 0 0) 24 Try.underlying23 hj hy0 hy1 hy2 rfl v (m1 + 1) (X1 ++ [V]) h3 ad m3 c X3 hl hX hV (by unfold maxLen; omega) (by omega) h2
  refine ⟨v', w', by rw [h4]; exact hr, v', h1.grown hg h2 (fun k hk => (h3.lt k hk).1), Nat.le_trans h2 hg.size, ?_, ?_, ?_, ?_⟩
  · simp only [ne_or hi.1, ne_or hi.2.2.1]
    simp only [hI, hJ, beq_self_eq_true, Bool.or_true, if_true]
    exact ho
  · simp only [beq_self_eq_true, Bool.or_true, if_true, get_put a s3 _ _ hd]
  · simp only [ne_or hi.2.1, get_put a s3 _ _ hd, if_neg (Ne.symm hs)]
    exact fun hl => LitAt.grown (n := 0) (xs := []) (h5 hl) hg hst
  · simp only [ne_or hi.2.2.2]
    simp only [hA.2]
    intro h
    cases h

theorem ChainR.end_ (h : ChainR I0 A1 L A2 A3 E s0 s1 t s2 s3 r B W0 m1 X1 V m3 X3 l a w) (hd : r < a.tmps.size) (hA : l A3 = true) (hi : E ≠ I0 ∧ E ≠ A1 ∧ E ≠ L ∧ E ≠ A2 ∧ E ≠ A3) (hs : r ≠ t ∧ r ≠ s3) :
    ChainR I0 A1 L A2 A3 E s0 s1 t s2 s3 r B W0 m1 X1 V m3 X3 (fun j => l j || j == E) (a.put (some r) (a.tmps.getD s3 undef)) w := by
  obtain ⟨v, h1, h2, h3, h4, h5, h6⟩ := h
  rw [if_pos hA] at h4
  refine ⟨v, h1, h2, ?_, ?_, ?_, ?_⟩
  · simp only [ne_or hi.2.1, ne_or hi.2.2.2.1, ne_or hi.2.2.2.2]
    exact h3
  · simp only [ne_or hi.2.2.2.2]
    simp only [hA, if_true, get_put a r _ _ hd, if_neg (Ne.symm hs.2)]
    exact h4
  · simp only [ne_or hi.2.2.1, get_put a r _ _ hd, if_neg (Ne.symm hs.1)]
    exact h5
  · simp only [get_put a r _ _ hd, if_true]
    exact fun _ => h4

end Go.Proofs.Ythbddbipmoflfaa
