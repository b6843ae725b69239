/- Acts as they are handed in, in a row and in a variable; rows of pointers. -/
import Derived.Test.YtgjjeggopeppfaaRows
import Derived.Test.YtgjjeggopeppfaaPages
import Derived.Test.YtgjjeggopeppfaaBasis
import Derived.Test.YtgjjeggopeppfaaLeast
import Derived.Test.YtgjjeggopeppfaaLays
import Derived.WalkKit
import Derived.ProofKit
import Derived.OpenShut
import Derived.Below
import Derived.WalkLawsBesides
import Derived.Deep.QuietTactic
import Derived.BigQuiet
import Derived.Deep.Matrix
import Derived.SizedLaws
import Derived.OwnWalk
import Derived.Deep.Slices
namespace Go.Proofs.Ytgjjeggopeppfaa
open Go.ChangeShapes Go.WideShapes Go.ChangeAt Go.RowKit
set_option linter.unusedVariables false
set_option linter.unusedSimpArgs false

structure SL where
  a : Option Addr
  n : Nat
  c : Nat
def SL.v (s : SL) : Value := .slice s.a s.n s.c

/-- an act as it is handed in -/
structure OpV where
  k : Int
  q : Int
  W : SL
  zw : List Int
  n : Int

/-- what an act's row reads as -/
structure OpOk (w : World) (o : OpV) : Prop where
  rw_ : Reads .i64 w o.W.a o.W.n o.zw
  wn : (Lit.int .i64 o.n).wf = true
theorem OpOk.below {w w' : World} {o : OpV} (h : OpOk w o) (hb : Below w.heap.size w w') : OpOk w' o := ⟨h.rw_.below hb, h.wn⟩

/-- a row of acts that is handed in -/
structure OpsAt (w : World) (a : Option Addr) (n : Nat) (O : Nat → OpV) : Prop where
  max : n ≤ 9223372036854775807
  some_ : 0 < n → ∃ x, a = some x
  cell : ∀ x, a = some x → ∀ i, i < n → w.cell? (x.add (i * 4)) = some (.int .i64 (O i).k) ∧ w.cell? ((x.add (i * 4)).add 1) = some (.int .i64 (O i).q) ∧ w.cell? ((x.add (i * 4)).add 2) = some (O i).W.v ∧ w.cell? ((x.add (i * 4)).add 3) = some (.int .i64 (O i).n)
  ok : ∀ i, i < n → OpOk w (O i)

theorem OpsAt.below {w w' : World} {a : Option Addr} {n : Nat} {O : Nat → OpV} (h : OpsAt w a n O) (hb : Below w.heap.size w w') : OpsAt w' a n O := by
  have c : ∀ p v, w.cell? p = some v → w'.cell? p = some v := fun p v hp => (hb.cell (World.block_lt_of_cell? w p hp)).trans hp
  refine ⟨h.max, h.some_, fun x hx i hi => ?_, fun i hi => (h.ok i hi).below hb⟩
  obtain ⟨d0, d1, d2, d3⟩ := h.cell x hx i hi
  exact ⟨c _ _ d0, c _ _ d1, c _ _ d2, c _ _ d3⟩

theorem ce41 : Try.prog.cellsOf 41 = 4 := by kernel_rfl
theorem ce3 : Try.prog.cellsOf 3 = 1 := by kernel_rfl
theorem ce39 : Try.prog.cellsOf 39 = 1 := by kernel_rfl
theorem by2 : Try.prog.bytesOf 2 = 8 := by kernel_rfl

/-- within memory -/
def Small {H : Type} (d : DataW H) (t : TypeId) : Prop := ∀ m ∈ d.weights Try.prog t, m ≤ reachBytes

theorem weights_all {H : Type} {P : Program} {e : TypeId} {d : DataW H} {m : Nat} : ∀ {l : List (DataW H)}, d ∈ l → m ∈ d.weights P e → m ∈ DataW.weightsAll P e l
  | x :: l, h, hm => by
    simp only [DataW.weightsAll, List.mem_append]
    rcases List.mem_cons.1 h with rfl | h
    · exact .inl hm
    · exact .inr (weights_all h hm)

theorem choose_below {α : Type} (d : α) {n : Nat} {p : Nat → α → Prop} (h : ∀ i, i < n → ∃ a, p i a) : ∃ F : Nat → α, ∀ i, i < n → p i (F i) := by
  refine ⟨fun i => if hi : i < n then (h i hi).choose else d, fun i hi => ?_⟩
  simp only [dif_pos hi]
  exact (h i hi).choose_spec

theorem small_field {H : Type} {t : TypeId} {fs : Array Field} {parts : List (DataW H)} (hu : Try.prog.underlying t = some (.struct fs)) (hs : Small (.agg parts) t) {j : Nat} {f : Field} {d : DataW H} (hf : fs.toList[j]? = some f) (hd : parts[j]? = some d) : Small d f.type := by
  intro m hm
  refine hs m ?_
  simp only [DataW.weights, hu]
  exact DataW.weights_mem_each (j := j) (by simp [hf]) hd m hm

section
variable {H : Type} {enc : TypeId × Value → H} {W : World} {fuel : Nat}

theorem open_w {c : Value} {x : DataW H × List MemPlace} (h : DataW.trod enc Try.prog W 0 (fun _ => true) true fuel 39 [c] = some x) : ∃ (s : SL) (zs : List Int), c = s.v ∧ Reads .i64 W s.a s.n zs ∧ (Small x.1 39 → zs.length * 8 ≤ 140737488351232) := by
  rcases open_ints Try.underlying39 Try.underlying2 (by kernel_rfl) h with ⟨hcs, hd⟩ | ⟨y, l, cp, zs, hcs, _, hl, hm, hz, hd, hcell, hwz⟩
  · obtain rfl : c = .slice none 0 0 := by simpa using hcs
    exact ⟨⟨none, 0, 0⟩, [], rfl, Reads.nil _ _, fun _ => by simp⟩
  · obtain rfl : c = .slice (some y) l cp := by simpa using hcs
    have hz' : zs.length = cp := by simpa using hz
    refine ⟨⟨some y, l, cp⟩, zs.take l, rfl, Reads.of_open hl hm hz' hcell hwz, fun hs => ?_⟩
    have hd' : x.1 = _ := congrArg Prod.fst hd
    rw [hd'] at hs
    have := hs _ (by simp only [DataW.weights, Try.underlying39, by2]; exact List.mem_cons_self)
    simp only [lits, List.length_map, List.length_take, List.length_drop, reachBytes] at this
    rw [List.length_take]
    omega

theorem open_op {c0 c1 c2 c3 : Value} {x : DataW H × List MemPlace} (h : DataW.trod enc Try.prog W 0 (fun _ => true) true fuel 41 [c0, c1, c2, c3] = some x) :
    ∃ o : OpV, c0 = .int .i64 o.k ∧ c1 = .int .i64 o.q ∧ c2 = o.W.v ∧ c3 = .int .i64 o.n ∧ OpOk W o ∧ (Small x.1 41 → o.zw.length * 8 ≤ 140737488351232) := by
  obtain ⟨xs, n, -, ex, -, hlen, hf⟩ := DataW.trod_struct Try.underlying41 h
  have hl : xs.length = 4 := hlen.trans (by rfl)
  match xs, hl with
  | [x0, x1, x2, x3], _ =>
  have g0 : DataW.trod enc Try.prog W 0 (fun _ => true) true n 3 [c0] = some x0 := by rw [show [c0] = ([c0, c1, c2, c3].drop 0).take (Try.prog.cellsOf 3) by rw [ce3]; rfl]; exact hf 0 _ rfl
  have g1 : DataW.trod enc Try.prog W 0 (fun _ => true) true n 3 [c1] = some x1 := by rw [show [c1] = ([c0, c1, c2, c3].drop 1).take (Try.prog.cellsOf 3) by rw [ce3]; rfl]; exact hf 1 _ rfl
  have g2 : DataW.trod enc Try.prog W 0 (fun _ => true) true n 39 [c2] = some x2 := by rw [show [c2] = ([c0, c1, c2, c3].drop 2).take (Try.prog.cellsOf 39) by rw [ce39]; rfl]; exact hf 2 _ rfl
  have g3 : DataW.trod enc Try.prog W 0 (fun _ => true) true n 3 [c3] = some x3 := by rw [show [c3] = ([c0, c1, c2, c3].drop 3).take (Try.prog.cellsOf 3) by rw [ce3]; rfl]; exact hf 3 _ rfl
  obtain ⟨z0, e0, -, -⟩ := DataW.trod_int Try.underlying3 g0
  obtain ⟨z1, e1, -, -⟩ := DataW.trod_int Try.underlying3 g1
  obtain ⟨s2, y2, e2, r2, w2⟩ := open_w g2
  obtain ⟨z3, e3, -, wf3⟩ := DataW.trod_int Try.underlying3 g3
  exact ⟨⟨z0, z1, s2, y2, z3⟩, by simpa using e0, by simpa using e1, e2, by simpa using e3, ⟨r2, by first | exact wf3 | simpa using wf3⟩, fun hs => by
    rw [ex] at hs
    exact w2 (small_field Try.underlying41 hs (j := 2) rfl rfl)⟩

theorem open_ops {a : Option Addr} {l c : Nat} {dd : DataW H} {p : List MemPlace} (h : DataW.Trod enc Try.prog W 0 (fun _ => true) true 22 (.slice a l c) dd p) :
    ∃ O : Nat → OpV, OpsAt W a l O ∧ (a = none → c = 0) ∧ l ≤ c ∧ (Small dd 22 → ∀ i, i < l → (O i).zw.length * 8 ≤ 140737488351232) := by
  obtain ⟨fuel, hf⟩ := h
  have hf' : DataW.trod enc Try.prog W 0 (fun _ => true) true fuel 22 [.slice a l c] = some (dd, p) := by simpa [Value.cells] using hf
  rcases Go.Deep.open_slice Try.underlying22 hf' with ⟨hcs, hd⟩ | ⟨a', len, cap, m, n, D, Pl, hcs, _, hl, hm, hmm, hxx, hx⟩
  · simp only [List.cons.injEq, Value.slice.injEq, and_true] at hcs
    obtain ⟨rfl, rfl, rfl⟩ := hcs
    exact ⟨fun _ => ⟨0, 0, ⟨none, 0, 0⟩, [], 0⟩, ⟨Nat.zero_le _, (fun h => by cases h), (fun x hx => by cases hx), fun i hi => by cases hi⟩, fun _ => rfl, Nat.le_refl _, fun _ i hi => by cases hi⟩
  · simp only [List.cons.injEq, Value.slice.injEq, and_true] at hcs
    obtain ⟨rfl, rfl, rfl⟩ := hcs
    have hlm : l ≤ m := by rw [hmm]; simp; exact hl
    rw [ce41] at hx
    obtain ⟨F, hF⟩ := choose_below (⟨0, 0, ⟨none, 0, 0⟩, [], 0⟩ : OpV) (n := l) (p := fun i o => (W.cell? (a'.add (i * 4)) = some (.int .i64 o.k) ∧ W.cell? ((a'.add (i * 4)).add 1) = some (.int .i64 o.q) ∧ W.cell? ((a'.add (i * 4)).add 2) = some o.W.v ∧ W.cell? ((a'.add (i * 4)).add 3) = some (.int .i64 o.n)) ∧ OpOk W o ∧ (Small (D i) 41 → o.zw.length * 8 ≤ 140737488351232)) (fun i hi => by
      obtain ⟨cs', h1, h2⟩ := hx i (by omega)
      obtain ⟨q1, hlen, q3⟩ := World.cells?_some h1
      match cs', hlen with
      | [c0, c1, c2, c3], _ =>
        obtain ⟨o, e0, e1, e2, e3, ok, sm⟩ := open_op h2
        subst e0 e1 e2 e3
        exact ⟨o, ⟨q3 0 (by decide), q3 1 (by decide), q3 2 (by decide), q3 3 (by decide)⟩, ok, sm⟩)
    refine ⟨F, ⟨by unfold maxLen at hm; omega, fun _ => ⟨_, rfl⟩, fun x hx' i hi => ?_, fun i hi => (hF i hi).2.1⟩, (fun h => by cases h), hl, fun hs i hi => (hF i hi).2.2 fun q hq => hs q ?_⟩
    · obtain rfl := Option.some.inj hx'
      exact (hF i hi).1
    · have unf : ∀ (el sp : List (DataW H)), (DataW.slice el sp).weights Try.prog 22 = (el.length + sp.length) * Try.prog.bytesOf 41 :: (DataW.weightsAll Try.prog 41 el ++ DataW.weightsAll Try.prog 41 sp) := fun el sp => by simp only [DataW.weights, Try.underlying22]
      have hdd : dd = _ := congrArg Prod.fst hxx
      rw [hdd, unf]
      exact List.mem_cons_of_mem _ (List.mem_append_left _ (weights_all (List.mem_map.2 ⟨i, List.mem_range.2 hi, rfl⟩) hq))
end

/-- the cells of an act's variable -/
def boxC (o : OpV) : Array Value := #[.int .i64 o.k, .int .i64 o.q, .slice o.W.a o.W.n o.W.c, .int .i64 o.n]
/-- an act's variable -/
def BoxO (w : World) (x : Nat) (o : OpV) : Prop := w.heap[x]? = some (.cells (boxC o) 41 (0, 0))
theorem BoxO.new (w : World) (o : OpV) : BoxO (w.alloc (.cells (boxC o) 41)) w.heap.size o := heap_alloc_new w _
theorem BoxO.off {B : Nat} {T : TypeId → Bool} {w w' : World} {x : Nat} {o : OpV} (h : BoxO w x o) (f : Off B T w w') (hT : T 41 = false) : BoxO w' x o := (f.row (t := 41) (m := 4) ⟨_, h, rfl⟩ hT).trans h
theorem BoxO.below {w w' : World} {x : Nat} {o : OpV} (h : BoxO w x o) (b : Below w.heap.size w w') : BoxO w' x o := (b.block x (Array.getElem?_eq_some_iff.1 h).1).trans h
theorem BoxO.drewN {w : World} {x : Nat} {o : OpV} (h : BoxO w x o) (m : Nat) : BoxO (w.drewN m) x o := h
theorem BoxO.cells {w : World} {x : Nat} {o : OpV} (h : BoxO w x o) : w.cell? ⟨x, 0, none⟩ = some (.int .i64 o.k) ∧ w.cell? ⟨x, 1, none⟩ = some (.int .i64 o.q) ∧ w.cell? ⟨x, 2, none⟩ = some (.slice o.W.a o.W.n o.W.c) ∧ w.cell? ⟨x, 3, none⟩ = some (.int .i64 o.n) := by
  refine ⟨?_, ?_, ?_, ?_⟩ <;> (unfold World.cell?; rw [h]; rfl)

/-- the cells of a row of pointers -/
def ptrs (X : Nat → Nat) (k : Nat) : List Value := (List.range k).map fun i => .pointer (some ⟨X i, 0, none⟩)
theorem ptrs_at (X : Nat → Nat) (k i : Nat) (h : i < k) : (ptrs X k)[i]? = some (.pointer (some ⟨X i, 0, none⟩)) := by simp [ptrs, h]
theorem ptrs_snoc (X : Nat → Nat) (k x : Nat) : ptrs (upd X k x) (k + 1) = ptrs X k ++ [.pointer (some ⟨x, 0, none⟩)] := by
  unfold ptrs
  rw [List.range_succ, List.map_append]
  congr 1
  · apply List.map_congr_left
    intro i hi
    rw [upd_other _ _ _ _ (by have := List.mem_range.1 hi; omega)]
  · simp [upd_same]
theorem one_ptr (x : Nat) : ∀ u ∈ [Value.pointer (some ⟨x, 0, none⟩)], u.oneCell' = true := by
  intro u hu
  simp at hu
  subst hu
  rfl
theorem info31 : (Try.prog.info? 31).map (fun i => (i.zero, i.size, i.bytes)) = some (some (.pointer none), 1, 8) := by kernel_rfl
theorem info34 : (Try.prog.info? 34).map (fun i => (i.zero, i.size, i.bytes)) = some (some (.pointer none), 1, 8) := by kernel_rfl
theorem info39 : (Try.prog.info? 39).map (fun i => (i.zero, i.size, i.bytes)) = some (some (.slice none 0 0), 1, 24) := by kernel_rfl
theorem own_cell {w : World} {B : Nat} {e : TypeId} {a : Option Addr} {k n c : Nat} {cs : List Value} (h : w.ownsRow B e 1 (.slice a n c) k cs) {i : Nat} {u : Value} (hi : cs[i]? = some u) : ∃ x, a = some x ∧ w.cell? (x.add i) = some u := by
  rcases h.2 with ⟨h1, h0⟩ | ⟨g, cap, cur, h1, h2, h3, h4⟩
  · have := h.1
    rw [h0] at this
    have hl : cs.length = 0 := by simpa using this
    have := (List.getElem?_eq_some_iff.1 hi).1
    omega
  · simp only [Value.slice.injEq] at h1
    obtain ⟨rfl, rfl, rfl⟩ := h1
    exact ⟨_, rfl, h.cells (g := g) rfl i u hi⟩

end Go.Proofs.Ytgjjeggopeppfaa
