/- A case that is handed in: what it holds, and how it lies in memory. -/
import Derived.Test.YteeljnibglnflaaRows
import Derived.Test.YteeljnibglnflaaView
import Derived.Test.YteeljnibglnflaaOwn
import Derived.Test.YteeljnibglnflaaBmZ
import Derived.Test.YteeljnibglnflaaBmAt
import Derived.Test.YteeljnibglnflaaGMean
import Derived.WalkKit
import Derived.ProofKit
import Derived.OpenShut
import Derived.WalkLawsBesides
import Derived.Below
import Derived.Deep.QuietTactic
import Derived.BigQuiet
import Derived.Laws.AppendOwnNone
import Derived.ChangeOld
import Derived.ChangeMaps5
import Derived.Deep.Slices
import Derived.Lib.SmallJoins
import Derived.SizedLaws
import Derived.Deep.Matrix
namespace Go.Proofs.Yteeljnibglnflaa
set_option maxRecDepth 20000
open Go.ChangeShapes Go.WideShapes Go.ChangeAt Go.RowKit
set_option linter.unusedVariables false
set_option linter.unusedSimpArgs false

theorem ce42 : Try.prog.cellsOf 42 = 3 := by kernel_rfl
theorem ce29 : Try.prog.cellsOf 29 = 1 := by kernel_rfl
theorem ce2 : Try.prog.cellsOf 2 = 1 := by kernel_rfl
theorem ce4 : Try.prog.cellsOf 4 = 1 := by kernel_rfl
theorem ce22 : Try.prog.cellsOf 22 = 1 := by kernel_rfl
theorem ce23 : Try.prog.cellsOf 23 = 1 := by kernel_rfl
theorem ce3 : Try.prog.cellsOf 3 = 1 := by kernel_rfl
theorem ce25 : Try.prog.cellsOf 25 = 6 := by kernel_rfl
theorem by3 : Try.prog.bytesOf 3 = 8 := by kernel_rfl
theorem by2 : Try.prog.bytesOf 2 = 8 := by kernel_rfl
theorem by42 : Try.prog.bytesOf 42 = 40 := by kernel_rfl
theorem by46 : Try.prog.bytesOf 46 = 24 := by kernel_rfl

/-- beams, rows of scores and four numbers -/
structure CsV where
  la : Option Addr
  n : Nat
  lc : Nat
  A : Nat → Option Addr
  C : Nat → Nat
  L : Nat → Bm
  ra : Option Addr
  m : Nat
  rc : Nat
  A1 : Nat → Option Addr
  C1 : Nat → Nat
  R : Nat → List Int
  W : Int
  Ln : Int
  St : Int
  Pn : Int
def CsV.v (c : CsV) : Value := .agg #[.slice c.la c.n c.lc, .slice c.ra c.m c.rc, .int .i64 c.W, .int .i64 c.Ln, .int .i64 c.St, .int .i64 c.Pn]

/-- how a case lies in memory -/
structure CsAt (w : World) (c : CsV) : Prop where
  b : BmAt w c.la c.n c.A c.C c.L
  le : c.la = none → c.lc = 0
  ll : c.n ≤ c.lc
  g : Grid w c.ra c.m c.A1 c.C1 c.R
  re : c.ra = none → c.rc = 0
  rl : c.m ≤ c.rc
  wW : (Lit.int .i64 c.W).wf = true
  wL : (Lit.int .i64 c.Ln).wf = true
  wS : (Lit.int .i64 c.St).wf = true
  wP : (Lit.int .i64 c.Pn).wf = true
  bn : c.n ≤ 140737488351232
  bt : ∀ r, r < c.n → (c.L r).t.length ≤ 140737488351232
  br : ∀ r, r < c.m → (c.R r).length ≤ 140737488351232

theorem CsAt.below {w w' : World} {c : CsV} (h : CsAt w c) (hb : Below w.heap.size w w') : CsAt w' c := ⟨h.b.below hb, h.le, h.ll, h.g.below hb, h.re, h.rl, h.wW, h.wL, h.wS, h.wP, h.bn, h.bt, h.br⟩

/-- within memory -/
def Small {H : Type} (d : DataW H) (t : TypeId) : Prop := ∀ m ∈ d.weights Try.prog t, m ≤ reachBytes

theorem weights_all {H : Type} {P : Program} {e : TypeId} {d : DataW H} {m : Nat} : ∀ {l : List (DataW H)}, d ∈ l → m ∈ d.weights P e → m ∈ DataW.weightsAll P e l
  | x :: l, h, hm => by
    simp only [DataW.weightsAll, List.mem_append]
    rcases List.mem_cons.1 h with rfl | h
    · exact .inl hm
    · exact .inr (weights_all h hm)

theorem choose_below {α : Type} (d : α) {n : Nat} {p : Nat → α → Prop} (h : ∀ i, i < n → ∃ a, p i a) : ∃ F : Nat → α, ∀ i, i < n → p i (F i) := by
  refine ⟨fun i => if hi : i < n then (h i hi).choose else d, fun i hi => ?_⟩
  simp only [dif_pos hi]
  exact (h i hi).choose_spec

theorem small_field {H : Type} {t : TypeId} {fs : Array Field} {parts : List (DataW H)} (hu : Try.prog.underlying t = some (.struct fs)) (hs : Small (.agg parts) t) {j : Nat} {f : Field} {d : DataW H} (hf : fs.toList[j]? = some f) (hd : parts[j]? = some d) : Small d f.type := by
  intro m hm
  refine hs m ?_
  simp only [DataW.weights, hu]
  exact DataW.weights_mem_each (j := j) (by simp [hf]) hd m hm

section
variable {H : Type} {enc : TypeId × Value → H} {W : World} {fuel : Nat}

theorem open_ts {c : Value} {x : DataW H × List MemPlace} (h : DataW.trod enc Try.prog W 0 (fun _ => true) true fuel 29 [c] = some x) : ∃ (a : Option Addr) (n cp : Nat) (zs : List Int), c = .slice a n cp ∧ Reads .i64 W a n zs ∧ (a = none → cp = 0) ∧ (Small x.1 29 → zs.length ≤ 140737488351232) := by
  rcases open_ints Try.underlying29 Try.underlying3 (by kernel_rfl) h with ⟨hcs, hd⟩ | ⟨y, l, cp, zs, hcs, _, hl, hm, hz, hd, hcell, hwz⟩
  · obtain rfl : c = .slice none 0 0 := by simpa using hcs
    exact ⟨none, 0, 0, [], rfl, Reads.nil _ _, fun _ => rfl, fun _ => by simp⟩
  · obtain rfl : c = .slice (some y) l cp := by simpa using hcs
    have hz' : zs.length = cp := by simpa using hz
    refine ⟨some y, l, cp, zs.take l, rfl, Reads.of_open hl hm hz' hcell hwz, (fun h => by cases h), fun hs => ?_⟩
    have hd' : x.1 = _ := congrArg Prod.fst hd
    rw [hd'] at hs
    have := hs _ (by simp only [DataW.weights, Try.underlying29, by3]; exact List.mem_cons_self)
    simp only [lits, List.length_map, List.length_take, List.length_drop, reachBytes] at this
    rw [List.length_take]
    omega

theorem open_bm {c0 c1 c2 : Value} {x : DataW H × List MemPlace} (h : DataW.trod enc Try.prog W 0 (fun _ => true) true fuel 42 [c0, c1, c2] = some x) :
    ∃ o : Option Addr × Nat × Bm, c0 = .slice o.1 o.2.2.t.length o.2.1 ∧ c1 = .int .i64 o.2.2.s ∧ c2 = .bool o.2.2.f ∧ Reads .i64 W o.1 o.2.2.t.length o.2.2.t ∧ (o.1 = none → o.2.1 = 0) ∧ (Lit.int .i64 o.2.2.s).wf = true ∧ (Small x.1 42 → o.2.2.t.length ≤ 140737488351232) := by
  obtain ⟨xs, n, -, ex, -, hlen, hf⟩ := DataW.trod_struct Try.underlying42 h
  have hl : xs.length = 3 := hlen.trans (by rfl)
  match xs, hl with
  | [x0, x1, x2], _ =>
  have g0 : DataW.trod enc Try.prog W 0 (fun _ => true) true n 29 [c0] = some x0 := by rw [show [c0] = ([c0, c1, c2].drop 0).take (Try.prog.cellsOf 29) by rw [ce29]; rfl]; exact hf 0 _ rfl
  have g1 : DataW.trod enc Try.prog W 0 (fun _ => true) true n 2 [c1] = some x1 := by rw [show [c1] = ([c0, c1, c2].drop 1).take (Try.prog.cellsOf 2) by rw [ce2]; rfl]; exact hf 1 _ rfl
  have g2 : DataW.trod enc Try.prog W 0 (fun _ => true) true n 4 [c2] = some x2 := by rw [show [c2] = ([c0, c1, c2].drop 2).take (Try.prog.cellsOf 4) by rw [ce4]; rfl]; exact hf 2 _ rfl
  obtain ⟨a, tn, cp, zs, rfl, r0, n0, w0⟩ := open_ts g0
  obtain ⟨z1, e1, -, wf1⟩ := DataW.trod_int Try.underlying2 g1
  obtain ⟨z2, e2, -⟩ := DataW.trod_bool Try.underlying4 g2
  have hl0 := r0.len
  exact ⟨⟨a, cp, ⟨zs, z1, z2⟩⟩, by show Value.slice a tn cp = .slice a zs.length cp; rw [hl0], by simpa using e1, by simpa using e2, by show Reads .i64 W a zs.length zs; rw [hl0]; exact r0, n0, by first | exact wf1 | simpa using wf1, fun hs => by
    rw [ex] at hs
    exact w0 (small_field Try.underlying42 hs (j := 0) rfl rfl)⟩

theorem open_bms {c : Value} {x : DataW H × List MemPlace} (h : DataW.trod enc Try.prog W 0 (fun _ => true) true fuel 22 [c] = some x) :
    ∃ (a : Option Addr) (l cp : Nat) (A : Nat → Option Addr) (C : Nat → Nat) (L : Nat → Bm), c = .slice a l cp ∧ BmAt W a l A C L ∧ (a = none → cp = 0) ∧ l ≤ cp ∧ (Small x.1 22 → l ≤ 140737488351232 ∧ ∀ i, i < l → (L i).t.length ≤ 140737488351232) := by
  obtain ⟨dd, p⟩ := x
  rcases Go.Deep.open_slice Try.underlying22 h with ⟨hcs, hd⟩ | ⟨a', len, cap, m, n, D, Pl, hcs, _, hl, hm, hmm, hxx, hx⟩
  · obtain rfl : c = .slice none 0 0 := by simpa using hcs
    exact ⟨none, 0, 0, fun _ => none, fun _ => 0, fun _ => b0, rfl, BmAt.nil_ _ _ _ _, fun _ => rfl, Nat.le_refl _, fun _ => ⟨by omega, fun i hi => by omega⟩⟩
  · obtain rfl : c = .slice (some a') len cap := by simpa using hcs
    have hlm : len ≤ m := by rw [hmm]; simp; exact hl
    rw [ce42] at hx
    obtain ⟨F, hF⟩ := choose_below ((none, 0, b0) : Option Addr × Nat × Bm) (n := len) (p := fun i o => (W.cell? (a'.add (i * 3)) = some (.slice o.1 o.2.2.t.length o.2.1) ∧ W.cell? ((a'.add (i * 3)).add 1) = some (.int .i64 o.2.2.s) ∧ W.cell? ((a'.add (i * 3)).add 2) = some (.bool o.2.2.f)) ∧ Reads .i64 W o.1 o.2.2.t.length o.2.2.t ∧ (o.1 = none → o.2.1 = 0) ∧ (Lit.int .i64 o.2.2.s).wf = true ∧ (Small (D i) 42 → o.2.2.t.length ≤ 140737488351232)) (fun i hi => by
      obtain ⟨cs', h1, h2⟩ := hx i (by omega)
      obtain ⟨q1, hlen, q3⟩ := World.cells?_some h1
      match cs', hlen with
      | [c0, c1, c2], _ =>
        obtain ⟨o, e0, e1, e2, ok⟩ := open_bm h2
        subst e0 e1 e2
        exact ⟨o, ⟨q3 0 (by decide), q3 1 (by decide), q3 2 (by decide)⟩, ok⟩)
    have unf : ∀ (el sp : List (DataW H)), (DataW.slice el sp).weights Try.prog 22 = (el.length + sp.length) * Try.prog.bytesOf 42 :: (DataW.weightsAll Try.prog 42 el ++ DataW.weightsAll Try.prog 42 sp) := fun el sp => by simp only [DataW.weights, Try.underlying22]
    have hdd : dd = _ := congrArg Prod.fst hxx
    refine ⟨some a', len, cap, fun i => (F i).1, fun i => (F i).2.1, fun i => (F i).2.2, rfl, ⟨by unfold maxLen at hm; omega, fun _ => ⟨_, rfl⟩, fun x hx' i hi => ?_, fun i hi => (hF i hi).2.1, fun i hi => (hF i hi).2.2.1, fun i hi => (hF i hi).2.2.2.1⟩, (fun h => by cases h), hl, fun hs => ⟨?_, fun i hi => (hF i hi).2.2.2.2 fun q hq => hs q ?_⟩⟩
    · obtain rfl := Option.some.inj hx'
      exact (hF i hi).1
    · have := hs _ (by show _ ∈ dd.weights Try.prog 22; rw [hdd, unf]; exact List.mem_cons_self)
      simp only [List.length_map, List.length_range, by42, reachBytes] at this
      omega
    · show q ∈ dd.weights Try.prog 22
      rw [hdd, unf]
      exact List.mem_cons_of_mem _ (List.mem_append_left _ (weights_all (List.mem_map.2 ⟨i, List.mem_range.2 hi, rfl⟩) hq))

theorem open_rows {c : Value} {x : DataW H × List MemPlace} (h : DataW.trod enc Try.prog W 0 (fun _ => true) true fuel 23 [c] = some x) :
    ∃ (a : Option Addr) (n cp : Nat) (A : Nat → Option Addr) (C : Nat → Nat) (R : Nat → List Int), c = .slice a n cp ∧ Grid W a n A C R ∧ (a = none → cp = 0) ∧ n ≤ cp ∧ (Small x.1 23 → ∀ r, r < n → (R r).length ≤ 140737488351232) := by
  rcases Go.Deep.open_int_rows Try.underlying23 Try.underlying46 Try.underlying2 (by kernel_rfl) (by kernel_rfl) h with ⟨hcs, hd⟩ | ⟨y, len, cap, A, L, C, Z, hcs, _, hl, hm, hd, hrow⟩
  · obtain rfl : c = .slice none 0 0 := by simpa using hcs
    exact ⟨none, 0, 0, fun _ => none, fun _ => 0, fun _ => [], rfl, ⟨by omega, fun h => by omega, fun _ h => (by cases h), fun r hr => by omega⟩, fun _ => rfl, Nat.le_refl _, fun _ r hr => by omega⟩
  · obtain rfl : c = .slice (some y) len cap := by simpa using hcs
    have hlen : ∀ r, r < len → ((Z r).take (L r)).length = L r := fun r hr => by
      obtain ⟨_, h1, _, h3, _⟩ := hrow r (by omega)
      rw [List.length_take]; omega
    refine ⟨some y, len, cap, A, C, fun r => (Z r).take (L r), rfl, ⟨by unfold maxLen at hm; omega, fun _ => ⟨_, rfl⟩, fun z hz r hr => ?_, fun r hr => ?_⟩, (fun h => by cases h), hl, fun hs r hr => ?_⟩
    · obtain rfl := Option.some.inj hz
      rw [hlen r hr]
      exact (hrow r (by omega)).1
    · rw [hlen r hr]
      obtain ⟨_, h1, h2, h3, h4, h5, h6⟩ := hrow r (by omega)
      cases hA : A r with
      | none =>
        have : L r = 0 := by have := h5 hA; omega
        rw [this]
        exact Reads.nil _ _
      | some y => exact Reads.of_open h1 h2 h3 (fun i hi => (h6 y hA).2 i (by omega)) h4
    · rw [hlen r hr]
      obtain ⟨_, h1, h2, h3, h4, h5, h6⟩ := hrow r (by omega)
      have unf : ∀ (el sp : List (DataW H)), (DataW.slice el sp).weights Try.prog 23 = (el.length + sp.length) * Try.prog.bytesOf 46 :: (DataW.weightsAll Try.prog 46 el ++ DataW.weightsAll Try.prog 46 sp) := fun el sp => by simp only [DataW.weights, Try.underlying23]
      have hd' : x.1 = _ := congrArg Prod.fst hd
      rw [hd'] at hs
      cases hA : A r with
      | none => have := h5 hA; omega
      | some y =>
        have hmem : Go.Deep.intRow (H := H) .i64 (A r) (L r) (Z r) ∈ (List.range len).map fun r => Go.Deep.intRow .i64 (A r) (L r) (Z r) := List.mem_map.2 ⟨r, List.mem_range.2 hr, rfl⟩
        have hrw : Go.Deep.intRow (H := H) .i64 (A r) (L r) (Z r) = .slice (lits .i64 ((Z r).take (L r))) (lits .i64 ((Z r).drop (L r))) := by rw [hA]; rfl
        have hmw : ((lits (H := H) .i64 ((Z r).take (L r))).length + (lits (H := H) .i64 ((Z r).drop (L r))).length) * 8 ∈ (Go.Deep.intRow (H := H) .i64 (A r) (L r) (Z r)).weights Try.prog 46 := by
          rw [hrw]
          simp only [DataW.weights, Try.underlying46, by2]
          exact List.mem_cons_self
        have := hs _ (by rw [unf]; exact List.mem_cons_of_mem _ (List.mem_append_left _ (weights_all hmem hmw)))
        simp only [lits, List.length_map, List.length_take, List.length_drop, reachBytes] at this
        omega

theorem array6 {α : Type} {cs : Array α} (h : cs.size = 6) : ∃ c0 c1 c2 c3 c4 c5, cs = #[c0, c1, c2, c3, c4, c5] := by
  obtain ⟨l⟩ := cs
  match l, h with
  | [c0, c1, c2, c3, c4, c5], _ => exact ⟨c0, c1, c2, c3, c4, c5, rfl⟩

theorem open_bcase {bb : Nat} {r : Reach} {v : Value} {dd : DataW H} {p : List MemPlace} (hv : Value.okWide Try.prog W r bb 25 v) (h : DataW.Trod enc Try.prog W 0 (fun _ => true) true 25 v dd p) : ∃ c : CsV, v = c.v ∧ (Small dd 25 → CsAt W c) := by
  obtain ⟨cs, rfl, hsz⟩ := okWide_struct Try.underlying25 hv
  obtain ⟨c0, c1, c2, c3, c4, c5, rfl⟩ := array6 (hsz.trans ce25)
  obtain ⟨fuel, hf⟩ := h
  have hf' : DataW.trod enc Try.prog W 0 (fun _ => true) true fuel 25 [c0, c1, c2, c3, c4, c5] = some (dd, p) := by simpa [Value.cells] using hf
  obtain ⟨xs, n, -, ex, -, hlen, hg⟩ := DataW.trod_struct Try.underlying25 hf'
  have hl : xs.length = 6 := hlen.trans (by rfl)
  match xs, hl with
  | [x0, x1, x2, x3, x4, x5], _ =>
  have g0 : DataW.trod enc Try.prog W 0 (fun _ => true) true n 22 [c0] = some x0 := by rw [show [c0] = ([c0, c1, c2, c3, c4, c5].drop 0).take (Try.prog.cellsOf 22) by rw [ce22]; rfl]; exact hg 0 _ rfl
  have g1 : DataW.trod enc Try.prog W 0 (fun _ => true) true n 23 [c1] = some x1 := by rw [show [c1] = ([c0, c1, c2, c3, c4, c5].drop 1).take (Try.prog.cellsOf 23) by rw [ce23]; rfl]; exact hg 1 _ rfl
  have g2 : DataW.trod enc Try.prog W 0 (fun _ => true) true n 3 [c2] = some x2 := by rw [show [c2] = ([c0, c1, c2, c3, c4, c5].drop 2).take (Try.prog.cellsOf 3) by rw [ce3]; rfl]; exact hg 2 _ rfl
  have g3 : DataW.trod enc Try.prog W 0 (fun _ => true) true n 3 [c3] = some x3 := by rw [show [c3] = ([c0, c1, c2, c3, c4, c5].drop 3).take (Try.prog.cellsOf 3) by rw [ce3]; rfl]; exact hg 3 _ rfl
  have g4 : DataW.trod enc Try.prog W 0 (fun _ => true) true n 3 [c4] = some x4 := by rw [show [c4] = ([c0, c1, c2, c3, c4, c5].drop 4).take (Try.prog.cellsOf 3) by rw [ce3]; rfl]; exact hg 4 _ rfl
  have g5 : DataW.trod enc Try.prog W 0 (fun _ => true) true n 3 [c5] = some x5 := by rw [show [c5] = ([c0, c1, c2, c3, c4, c5].drop 5).take (Try.prog.cellsOf 3) by rw [ce3]; rfl]; exact hg 5 _ rfl
  obtain ⟨la, ln, lc, A, C, L, rfl, q1, q2, q3, q4⟩ := open_bms g0
  obtain ⟨ra, m, rc, A1, C1, R, rfl, p1, p2, p3, p4⟩ := open_rows g1
  obtain ⟨z2, e2, -, w2⟩ := DataW.trod_int Try.underlying3 g2
  obtain ⟨z3, e3, -, w3⟩ := DataW.trod_int Try.underlying3 g3
  obtain ⟨z4, e4, -, w4⟩ := DataW.trod_int Try.underlying3 g4
  obtain ⟨z5, e5, -, w5⟩ := DataW.trod_int Try.underlying3 g5
  obtain rfl : c2 = .int .i64 z2 := by simpa using e2
  obtain rfl : c3 = .int .i64 z3 := by simpa using e3
  obtain rfl : c4 = .int .i64 z4 := by simpa using e4
  obtain rfl : c5 = .int .i64 z5 := by simpa using e5
  refine ⟨⟨la, ln, lc, A, C, L, ra, m, rc, A1, C1, R, z2, z3, z4, z5⟩, rfl, fun hs => ?_⟩
  have ex' : dd = .agg [x0.1, x1.1, x2.1, x3.1, x4.1, x5.1] := by simpa using congrArg Prod.fst ex
  rw [ex'] at hs
  have s0 := q4 (small_field Try.underlying25 hs (j := 0) rfl rfl)
  have s1 := p4 (small_field Try.underlying25 hs (j := 1) rfl rfl)
  exact ⟨q1, q2, q3, p1, p2, p3, w2, w3, w4, w5, s0.1, s0.2, s1⟩
end

end Go.Proofs.Yteeljnibglnflaa
