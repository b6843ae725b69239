/- A row of acts that is handed in: what each act is. -/
import Derived.Test.YtjbocoheognneaaRows
import Derived.Test.YtjbocoheognneaaPages
import Derived.Test.YtjbocoheognneaaView
import Derived.Test.YtjbocoheognneaaOwn
import Derived.Test.YtjbocoheognneaaMany
import Derived.WalkKit
import Derived.ProofKit
import Derived.OpenShut
import Derived.Below
import Derived.WalkLawsBesides
import Derived.Deep.QuietTactic
import Derived.BigQuiet
import Derived.ChangeOld
import Derived.ChangeMaps5
import Derived.Deep.Slices
import Derived.Lib.SmallJoins
import Derived.SizedLaws
namespace Go.Proofs.Ytjbocoheognneaa
open Go.ChangeShapes Go.WideShapes Go.ChangeAt Go.RowKit
set_option linter.unusedVariables false

/-- an act as it is handed in -/
structure OpV where
  k : Int
  t : ByteArray
  W : SL
  zw : List Int
  P : SL
  zp : List Int
  n : Int
  v : Int

/-- what an act's lists read as -/
structure OpOk (w : World) (o : OpV) : Prop where
  rw_ : Reads .i8 w o.W.a o.W.n o.zw
  rp : Reads .i64 w o.P.a o.P.n o.zp
  wn : (Lit.int .i64 o.n).wf = true
theorem OpOk.below {w w' : World} {o : OpV} (h : OpOk w o) (hb : Below w.heap.size w w') : OpOk w' o := ⟨h.rw_.below hb, h.rp.below hb, h.wn⟩

/-- a row of acts that is handed in -/
structure OpsAt (w : World) (a : Option Addr) (n : Nat) (O : Nat → OpV) : Prop where
  max : n ≤ 9223372036854775807
  some_ : 0 < n → ∃ x, a = some x
  cell : ∀ x, a = some x → ∀ i, i < n → w.cell? (x.add (i * 6)) = some (.int .i64 (O i).k) ∧ w.cell? ((x.add (i * 6)).add 1) = some (.string (O i).t) ∧ w.cell? ((x.add (i * 6)).add 2) = some (O i).W.v ∧
    w.cell? ((x.add (i * 6)).add 3) = some (O i).P.v ∧ w.cell? ((x.add (i * 6)).add 4) = some (.int .i64 (O i).n) ∧ w.cell? ((x.add (i * 6)).add 5) = some (.int .i64 (O i).v)
  ok : ∀ i, i < n → OpOk w (O i)

theorem OpsAt.below {w w' : World} {a : Option Addr} {n : Nat} {O : Nat → OpV} (h : OpsAt w a n O) (hb : Below w.heap.size w w') : OpsAt w' a n O := by
  have c : ∀ p v, w.cell? p = some v → w'.cell? p = some v := fun p v hp => (hb.cell (World.block_lt_of_cell? w p hp)).trans hp
  refine ⟨h.max, h.some_, fun x hx i hi => ?_, fun i hi => (h.ok i hi).below hb⟩
  obtain ⟨d0, d1, d2, d3, d4, d5⟩ := h.cell x hx i hi
  exact ⟨c _ _ d0, c _ _ d1, c _ _ d2, c _ _ d3, c _ _ d4, c _ _ d5⟩

theorem ce34 : Try.prog.cellsOf 34 = 6 := by kernel_rfl
theorem ce3 : Try.prog.cellsOf 3 = 1 := by kernel_rfl
theorem ce2 : Try.prog.cellsOf 2 = 1 := by kernel_rfl
theorem ce9 : Try.prog.cellsOf 9 = 1 := by kernel_rfl
theorem ce31 : Try.prog.cellsOf 31 = 1 := by kernel_rfl
theorem ce32 : Try.prog.cellsOf 32 = 1 := by kernel_rfl
theorem by67 : Try.prog.bytesOf 67 = 1 := by kernel_rfl

/-- within memory -/
def Small {H : Type} (d : DataW H) (t : TypeId) : Prop := ∀ m ∈ d.weights Try.prog t, m ≤ reachBytes

theorem weights_all {H : Type} {P : Program} {e : TypeId} {d : DataW H} {m : Nat} : ∀ {l : List (DataW H)}, d ∈ l → m ∈ d.weights P e → m ∈ DataW.weightsAll P e l
  | x :: l, h, hm => by
    simp only [DataW.weightsAll, List.mem_append]
    rcases List.mem_cons.1 h with rfl | h
    · exact .inl hm
    · exact .inr (weights_all h hm)

theorem choose_below {α : Type} (d : α) {n : Nat} {p : Nat → α → Prop} (h : ∀ i, i < n → ∃ a, p i a) : ∃ F : Nat → α, ∀ i, i < n → p i (F i) := by
  refine ⟨fun i => if hi : i < n then (h i hi).choose else d, fun i hi => ?_⟩
  simp only [dif_pos hi]
  exact (h i hi).choose_spec

theorem small_field {H : Type} {t : TypeId} {fs : Array Field} {parts : List (DataW H)} (hu : Try.prog.underlying t = some (.struct fs)) (hs : Small (.agg parts) t) {j : Nat} {f : Field} {d : DataW H} (hf : fs.toList[j]? = some f) (hd : parts[j]? = some d) : Small d f.type := by
  intro m hm
  refine hs m ?_
  simp only [DataW.weights, hu]
  exact DataW.weights_mem_each (j := j) (by simp [hf]) hd m hm

section
variable {H : Type} {enc : TypeId × Value → H} {W : World} {fuel : Nat}

theorem open_w {c : Value} {x : DataW H × List MemPlace} (h : DataW.trod enc Try.prog W 0 (fun _ => true) true fuel 31 [c] = some x) : ∃ (s : SL) (zs : List Int), c = s.v ∧ Reads .i8 W s.a s.n zs ∧ (Small x.1 31 → zs.length ≤ 140737488351232) := by
  rcases open_ints Try.underlying31 Try.underlying67 (by kernel_rfl) h with ⟨hcs, hd⟩ | ⟨y, l, cp, zs, hcs, _, hl, hm, hz, hd, hcell, hwz⟩
  · obtain rfl : c = .slice none 0 0 := by simpa using hcs
    exact ⟨⟨none, 0, 0⟩, [], rfl, Reads.nil _ _, fun _ => by simp⟩
  · obtain rfl : c = .slice (some y) l cp := by simpa using hcs
    have hz' : zs.length = cp := by simpa using hz
    refine ⟨⟨some y, l, cp⟩, zs.take l, rfl, Reads.of_open hl hm hz' hcell hwz, fun hs => ?_⟩
    have hd' : x.1 = _ := congrArg Prod.fst hd
    rw [hd'] at hs
    have := hs _ (by simp only [DataW.weights, Try.underlying31, by67]; exact List.mem_cons_self)
    simp only [lits, List.length_map, List.length_take, List.length_drop, reachBytes] at this
    rw [List.length_take]
    omega
theorem open_p {c : Value} {x : DataW H × List MemPlace} (h : DataW.trod enc Try.prog W 0 (fun _ => true) true fuel 32 [c] = some x) : ∃ (s : SL) (zs : List Int), c = s.v ∧ Reads .i64 W s.a s.n zs := by
  rcases open_ints Try.underlying32 Try.underlying3 (by kernel_rfl) h with ⟨hcs, hd⟩ | ⟨y, l, cp, zs, hcs, _, hl, hm, hz, hd, hcell, hwz⟩
  · obtain rfl : c = .slice none 0 0 := by simpa using hcs
    exact ⟨⟨none, 0, 0⟩, [], rfl, Reads.nil _ _⟩
  · obtain rfl : c = .slice (some y) l cp := by simpa using hcs
    have hz' : zs.length = cp := by simpa using hz
    exact ⟨⟨some y, l, cp⟩, zs.take l, rfl, Reads.of_open hl hm hz' hcell hwz⟩

theorem open_op {c0 c1 c2 c3 c4 c5 : Value} {x : DataW H × List MemPlace} (h : DataW.trod enc Try.prog W 0 (fun _ => true) true fuel 34 [c0, c1, c2, c3, c4, c5] = some x) :
    ∃ o : OpV, c0 = .int .i64 o.k ∧ c1 = .string o.t ∧ c2 = o.W.v ∧ c3 = o.P.v ∧ c4 = .int .i64 o.n ∧ c5 = .int .i64 o.v ∧ OpOk W o ∧ (Small x.1 34 → o.zw.length ≤ 140737488351232) := by
  obtain ⟨xs, n, -, ex, -, hlen, hf⟩ := DataW.trod_struct Try.underlying34 h
  have hl : xs.length = 6 := hlen.trans (by rfl)
  match xs, hl with
  | [x0, x1, x2, x3, x4, x5], _ =>
  have g0 : DataW.trod enc Try.prog W 0 (fun _ => true) true n 3 [c0] = some x0 := by rw [show [c0] = ([c0, c1, c2, c3, c4, c5].drop 0).take (Try.prog.cellsOf 3) by rw [ce3]; rfl]; exact hf 0 _ rfl
  have g1 : DataW.trod enc Try.prog W 0 (fun _ => true) true n 9 [c1] = some x1 := by rw [show [c1] = ([c0, c1, c2, c3, c4, c5].drop 1).take (Try.prog.cellsOf 9) by rw [ce9]; rfl]; exact hf 1 _ rfl
  have g2 : DataW.trod enc Try.prog W 0 (fun _ => true) true n 31 [c2] = some x2 := by rw [show [c2] = ([c0, c1, c2, c3, c4, c5].drop 2).take (Try.prog.cellsOf 31) by rw [ce31]; rfl]; exact hf 2 _ rfl
  have g3 : DataW.trod enc Try.prog W 0 (fun _ => true) true n 32 [c3] = some x3 := by rw [show [c3] = ([c0, c1, c2, c3, c4, c5].drop 3).take (Try.prog.cellsOf 32) by rw [ce32]; rfl]; exact hf 3 _ rfl
  have g4 : DataW.trod enc Try.prog W 0 (fun _ => true) true n 3 [c4] = some x4 := by rw [show [c4] = ([c0, c1, c2, c3, c4, c5].drop 4).take (Try.prog.cellsOf 3) by rw [ce3]; rfl]; exact hf 4 _ rfl
  have g5 : DataW.trod enc Try.prog W 0 (fun _ => true) true n 2 [c5] = some x5 := by rw [show [c5] = ([c0, c1, c2, c3, c4, c5].drop 5).take (Try.prog.cellsOf 2) by rw [ce2]; rfl]; exact hf 5 _ rfl
  obtain ⟨z0, e0, -, -⟩ := DataW.trod_int Try.underlying3 g0
  obtain ⟨z1, e1, -, -⟩ := DataW.trod_string Try.underlying9 g1
  obtain ⟨s2, y2, e2, r2, w2⟩ := open_w g2
  obtain ⟨s3, y3, e3, r3⟩ := open_p g3
  obtain ⟨z4, e4, -, wf4⟩ := DataW.trod_int Try.underlying3 g4
  obtain ⟨z5, e5, -, -⟩ := DataW.trod_int Try.underlying2 g5
  exact ⟨⟨z0, z1, s2, y2, s3, y3, z4, z5⟩, by simpa using e0, by simpa using e1, e2, e3, by simpa using e4, by simpa using e5, ⟨r2, r3, by first | exact wf4 | simpa using wf4⟩, fun hs => by
    rw [ex] at hs
    exact w2 (small_field Try.underlying34 hs (j := 2) rfl rfl)⟩

theorem open_ops {a : Option Addr} {l c : Nat} {dd : DataW H} {p : List MemPlace} (h : DataW.Trod enc Try.prog W 0 (fun _ => true) true 22 (.slice a l c) dd p) :
    ∃ O : Nat → OpV, OpsAt W a l O ∧ (a = none → c = 0) ∧ l ≤ c ∧ (Small dd 22 → ∀ i, i < l → (O i).zw.length ≤ 140737488351232) := by
  obtain ⟨fuel, hf⟩ := h
  have hf' : DataW.trod enc Try.prog W 0 (fun _ => true) true fuel 22 [.slice a l c] = some (dd, p) := by simpa [Value.cells] using hf
  rcases Go.Deep.open_slice Try.underlying22 hf' with ⟨hcs, hd⟩ | ⟨a', len, cap, m, n, D, Pl, hcs, _, hl, hm, hmm, hxx, hx⟩
  · simp only [List.cons.injEq, Value.slice.injEq, and_true] at hcs
    obtain ⟨rfl, rfl, rfl⟩ := hcs
    exact ⟨fun _ => ⟨0, ⟨#[]⟩, ⟨none, 0, 0⟩, [], ⟨none, 0, 0⟩, [], 0, 0⟩, ⟨Nat.zero_le _, (fun h => by cases h), (fun x hx => by cases hx), fun i hi => by cases hi⟩, fun _ => rfl, Nat.le_refl _, fun _ i hi => by cases hi⟩
  · simp only [List.cons.injEq, Value.slice.injEq, and_true] at hcs
    obtain ⟨rfl, rfl, rfl⟩ := hcs
    have hlm : l ≤ m := by rw [hmm]; simp; exact hl
    rw [ce34] at hx
    obtain ⟨F, hF⟩ := choose_below (⟨0, ⟨#[]⟩, ⟨none, 0, 0⟩, [], ⟨none, 0, 0⟩, [], 0, 0⟩ : OpV) (n := l) (p := fun i o => (W.cell? (a'.add (i * 6)) = some (.int .i64 o.k) ∧ W.cell? ((a'.add (i * 6)).add 1) = some (.string o.t) ∧ W.cell? ((a'.add (i * 6)).add 2) = some o.W.v ∧
        W.cell? ((a'.add (i * 6)).add 3) = some o.P.v ∧ W.cell? ((a'.add (i * 6)).add 4) = some (.int .i64 o.n) ∧ W.cell? ((a'.add (i * 6)).add 5) = some (.int .i64 o.v)) ∧ OpOk W o ∧ (Small (D i) 34 → o.zw.length ≤ 140737488351232)) (fun i hi => by
      obtain ⟨cs', h1, h2⟩ := hx i (by omega)
      obtain ⟨q1, hlen, q3⟩ := World.cells?_some h1
      match cs', hlen with
      | [c0, c1, c2, c3, c4, c5], _ =>
        obtain ⟨o, e0, e1, e2, e3, e4, e5, ok, sm⟩ := open_op h2
        subst e0 e1 e2 e3 e4 e5
        exact ⟨o, ⟨q3 0 (by decide), q3 1 (by decide), q3 2 (by decide), q3 3 (by decide), q3 4 (by decide), q3 5 (by decide)⟩, ok, sm⟩)
    refine ⟨F, ⟨by unfold maxLen at hm; omega, fun _ => ⟨_, rfl⟩, fun x hx' i hi => ?_, fun i hi => (hF i hi).2.1⟩, (fun h => by cases h), hl, fun hs i hi => (hF i hi).2.2 fun q hq => hs q ?_⟩
    · obtain rfl := Option.some.inj hx'
      exact (hF i hi).1
    · have unf : ∀ (el sp : List (DataW H)), (DataW.slice el sp).weights Try.prog 22 = (el.length + sp.length) * Try.prog.bytesOf 34 :: (DataW.weightsAll Try.prog 34 el ++ DataW.weightsAll Try.prog 34 sp) := fun el sp => by simp only [DataW.weights, Try.underlying22]
      have hdd : dd = _ := congrArg Prod.fst hxx
      rw [hdd, unf]
      exact List.mem_cons_of_mem _ (List.mem_append_left _ (weights_all (List.mem_map.2 ⟨i, List.mem_range.2 hi, rfl⟩) hq))
end

end Go.Proofs.Ytjbocoheognneaa
