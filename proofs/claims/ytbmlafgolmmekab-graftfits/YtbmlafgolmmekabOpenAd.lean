/- An adapter that is handed in: what it holds, and how it lies in memory. -/
import Derived.Test.YtbmlafgolmmekabRows
import Derived.Test.YtbmlafgolmmekabView
import Derived.Test.YtbmlafgolmmekabOwn
import Derived.Test.YtbmlafgolmmekabCfg
import Derived.Test.YtbmlafgolmmekabCfgs
import Derived.Test.YtbmlafgolmmekabHeld
import Derived.Test.YtbmlafgolmmekabReader
import Derived.Test.YtbmlafgolmmekabSls
import Derived.Test.YtbmlafgolmmekabSteps
import Derived.Test.YtbmlafgolmmekabInv
import Derived.Test.YtbmlafgolmmekabTyped
import Derived.Test.YtbmlafgolmmekabAds
import Derived.Test.YtbmlafgolmmekabPush
import Derived.Test.YtbmlafgolmmekabOwnReg
import Derived.Test.YtbmlafgolmmekabOwns
import Derived.Test.YtbmlafgolmmekabOpenCfg
import Derived.WalkKit
import Derived.ProofKit
import Derived.OpenShut
import Derived.ChangeOld
import Derived.Below
import Derived.WalkLawsBesides
import Derived.ChangeMaps5
import Derived.SizedLaws
import Derived.Deep.Slices
namespace Go.Proofs.Ytbmlafgolmmekab
open Go.ChangeShapes Go.WideShapes Go.ChangeAt Go.RowKit
set_option linter.unusedVariables false

theorem by41 : Try.prog.bytesOf 41 = 1 := by kernel_rfl
theorem ce42 : Try.prog.cellsOf 42 = 1 := by kernel_rfl
theorem ce22 : Try.prog.cellsOf 22 = 1 := by kernel_rfl
theorem ce47 : Try.prog.cellsOf 47 = 4 := by kernel_rfl
theorem ce24 : Try.prog.cellsOf 24 = 3 := by kernel_rfl

/-- within memory -/
def Small {H : Type} (d : DataW H) (t : TypeId) : Prop := ∀ m ∈ d.weights Try.prog t, m ≤ reachBytes

theorem weights_all {H : Type} {P : Program} {e : TypeId} {d : DataW H} {m : Nat} : ∀ {l : List (DataW H)}, d ∈ l → m ∈ d.weights P e → m ∈ DataW.weightsAll P e l
  | x :: l, h, hm => by
    simp only [DataW.weightsAll, List.mem_append]
    rcases List.mem_cons.1 h with rfl | h
    · exact .inl hm
    · exact .inr (weights_all h hm)

theorem choose_below {α : Type} (d0 : α) {n : Nat} {p : Nat → α → Prop} (h : ∀ i, i < n → ∃ a, p i a) : ∃ F : Nat → α, ∀ i, i < n → p i (F i) := by
  refine ⟨fun i => if hi : i < n then (h i hi).choose else d0, fun i hi => ?_⟩
  simp only [dif_pos hi]
  exact (h i hi).choose_spec

theorem small_field {H : Type} {t : TypeId} {fs : Array Field} {parts : List (DataW H)} (hu : Try.prog.underlying t = some (.struct fs)) (hs : Small (.agg parts) t) {j : Nat} {f : Field} {d : DataW H} (hf : fs.toList[j]? = some f) (hd : parts[j]? = some d) : Small d f.type := by
  intro m hm
  refine hs m ?_
  simp only [DataW.weights, hu]
  exact DataW.weights_mem_each (j := j) (by simp [hf]) hd m hm

section
variable {H : Type} {enc : TypeId × Value → H} {W : World} {fuel : Nat}

theorem open_s {c : Value} {x : DataW H × List MemPlace} (h : DataW.trod enc Try.prog W 0 (fun _ => true) true fuel 42 [c] = some x) : ∃ (s : SL) (zs : List Int), c = s.v ∧ IsS W s zs ∧ (Small x.1 42 → zs.length ≤ 140737488351232) := by
  rcases open_ints Try.underlying42 Try.underlying41 (by kernel_rfl) h with ⟨hcs, hd⟩ | ⟨y, l, cp, zs, hcs, _, hl, hm, hz, hd, hcell, hwz⟩
  · obtain rfl : c = .slice none 0 0 := by simpa using hcs
    exact ⟨⟨none, 0, 0⟩, [], rfl, IsS.none_ _, fun _ => by simp⟩
  · obtain rfl : c = .slice (some y) l cp := by simpa using hcs
    have hz' : zs.length = cp := by simpa using hz
    refine ⟨⟨some y, l, cp⟩, zs.take l, rfl, ⟨Reads.of_open hl hm hz' hcell hwz, (fun h => by cases h), hl⟩, fun hs => ?_⟩
    have hd' : x.1 = _ := congrArg Prod.fst hd
    rw [hd'] at hs
    have := hs _ (by simp only [DataW.weights, Try.underlying42, by41]; exact List.mem_cons_self)
    simp only [lits, List.length_map, List.length_take, List.length_drop, reachBytes] at this
    rw [List.length_take]
    omega

/-- what a layer is opened to -/
structure LayV where
  Y : Nat → SL
  f : Nat → List Int
def LayV.nought : LayV := ⟨fun _ => SL.nought, fun _ => []⟩

theorem open_y {c0 c1 c2 c3 : Value} {x : DataW H × List MemPlace} (h : DataW.trod enc Try.prog W 0 (fun _ => true) true fuel 47 [c0, c1, c2, c3] = some x) :
    ∃ y : LayV, (∀ j, j < 4 → [c0, c1, c2, c3][j]? = some (y.Y j).v) ∧ (∀ j, j < 4 → IsS W (y.Y j) (y.f j)) ∧ (Small x.1 47 → ∀ j, j < 4 → (y.f j).length ≤ 140737488351232) := by
  obtain ⟨xs, n, -, ex, -, hlen, hf⟩ := DataW.trod_struct Try.underlying47 h
  have hl : xs.length = 4 := hlen.trans (by rfl)
  match xs, hl with
  | [x0, x1, x2, x3], _ =>
  have g0 : DataW.trod enc Try.prog W 0 (fun _ => true) true n 42 [c0] = some x0 := by rw [show [c0] = ([c0, c1, c2, c3].drop 0).take (Try.prog.cellsOf 42) by rw [ce42]; rfl]; exact hf 0 _ rfl
  have g1 : DataW.trod enc Try.prog W 0 (fun _ => true) true n 42 [c1] = some x1 := by rw [show [c1] = ([c0, c1, c2, c3].drop 1).take (Try.prog.cellsOf 42) by rw [ce42]; rfl]; exact hf 1 _ rfl
  have g2 : DataW.trod enc Try.prog W 0 (fun _ => true) true n 42 [c2] = some x2 := by rw [show [c2] = ([c0, c1, c2, c3].drop 2).take (Try.prog.cellsOf 42) by rw [ce42]; rfl]; exact hf 2 _ rfl
  have g3 : DataW.trod enc Try.prog W 0 (fun _ => true) true n 42 [c3] = some x3 := by rw [show [c3] = ([c0, c1, c2, c3].drop 3).take (Try.prog.cellsOf 42) by rw [ce42]; rfl]; exact hf 3 _ rfl
  obtain ⟨s0, z0, e0, i0, w0⟩ := open_s g0
  obtain ⟨s1, z1, e1, i1, w1⟩ := open_s g1
  obtain ⟨s2, z2, e2, i2, w2⟩ := open_s g2
  obtain ⟨s3, z3, e3, i3, w3⟩ := open_s g3
  refine ⟨⟨four s0 s1 s2 s3, fun j => [z0, z1, z2, z3].getD j []⟩, fun j hj => ?_, fun j hj => ?_, fun hs j hj => ?_⟩
  · subst e0 e1 e2 e3
    rcases (show j = 0 ∨ j = 1 ∨ j = 2 ∨ j = 3 by omega) with rfl | rfl | rfl | rfl <;> rfl
  · rcases (show j = 0 ∨ j = 1 ∨ j = 2 ∨ j = 3 by omega) with rfl | rfl | rfl | rfl <;> assumption
  · rw [ex] at hs
    rcases (show j = 0 ∨ j = 1 ∨ j = 2 ∨ j = 3 by omega) with rfl | rfl | rfl | rfl
    · exact w0 (small_field Try.underlying47 hs (j := 0) rfl rfl)
    · exact w1 (small_field Try.underlying47 hs (j := 1) rfl rfl)
    · exact w2 (small_field Try.underlying47 hs (j := 2) rfl rfl)
    · exact w3 (small_field Try.underlying47 hs (j := 3) rfl rfl)

/-- the layers of an adapter -/
theorem open_l {c : Value} {x : DataW H × List MemPlace} (h : DataW.trod enc Try.prog W 0 (fun _ => true) true fuel 22 [c] = some x) : ∃ (s : SL) (F : Nat → LayV), c = s.v ∧ (0 < s.n → ∃ x, s.a = some x) ∧ (s.a = none → s.c = 0) ∧ s.n ≤ s.c ∧ s.n ≤ 9223372036854775807 ∧
    (∀ x, s.a = some x → ∀ i, i < s.n → ∀ j, j < 4 → W.cell? ((x.add (i * 4)).add j) = some ((F i).Y j).v) ∧ (∀ i, i < s.n → ∀ j, j < 4 → IsS W ((F i).Y j) ((F i).f j)) ∧ (Small x.1 22 → ∀ i, i < s.n → ∀ j, j < 4 → ((F i).f j).length ≤ 140737488351232) := by
  rcases Go.Deep.open_slice Try.underlying22 h with ⟨hcs, hd⟩ | ⟨a, len, cap, m, n, D, Pl, hcs, _, hl, hm, hmm, rfl, hx⟩
  · obtain rfl : c = .slice none 0 0 := by simpa using hcs
    exact ⟨⟨none, 0, 0⟩, fun _ => LayV.nought, rfl, (fun h => by cases h), fun _ => rfl, Nat.le_refl _, Nat.zero_le _, (fun x hx => by cases hx), (fun i hi => by cases hi), fun _ i hi => by cases hi⟩
  · obtain rfl : c = .slice (some a) len cap := by simpa using hcs
    have hlm : len ≤ m := by rw [hmm]; simp; exact hl
    rw [ce47] at hx
    obtain ⟨F, hF⟩ := choose_below LayV.nought (n := len) (p := fun i y => (∀ j, j < 4 → W.cell? ((a.add (i * 4)).add j) = some (y.Y j).v) ∧ (∀ j, j < 4 → IsS W (y.Y j) (y.f j)) ∧ (Small (D i) 47 → ∀ j, j < 4 → (y.f j).length ≤ 140737488351232)) (fun i hi => by
      obtain ⟨cs', h1, h2⟩ := hx i (by omega)
      obtain ⟨q1, hlen, q3⟩ := World.cells?_some h1
      match cs', hlen with
      | [c0, c1, c2, c3], _ =>
        obtain ⟨y, ey, iy, wy⟩ := open_y h2
        exact ⟨y, fun j hj => (q3 j hj).trans (ey j hj), iy, wy⟩)
    refine ⟨⟨some a, len, cap⟩, F, rfl, fun _ => ⟨_, rfl⟩, (fun h => by cases h), hl, by show len ≤ _; unfold maxLen at hm; omega, fun x hx' i hi => ?_, fun i hi => (hF i hi).2.1, fun hs i hi => (hF i hi).2.2 fun q hq => hs q ?_⟩
    · obtain rfl := Option.some.inj hx'
      exact (hF i hi).1
    · have unf : ∀ (el sp : List (DataW H)), (DataW.slice el sp).weights Try.prog 22 = (el.length + sp.length) * Try.prog.bytesOf 47 :: (DataW.weightsAll Try.prog 47 el ++ DataW.weightsAll Try.prog 47 sp) := fun el sp => by simp only [DataW.weights, Try.underlying22]
      rw [unf]
      exact List.mem_cons_of_mem _ (List.mem_append_left _ (weights_all (List.mem_map.2 ⟨i, List.mem_range.2 hi, rfl⟩) hq))

theorem array3 {α : Type} {cs : Array α} (h : cs.size = 3) : ∃ c0 c1 c2, cs = #[c0, c1, c2] := by
  obtain ⟨l⟩ := cs
  match l, h with
  | [c0, c1, c2], _ => exact ⟨c0, c1, c2, rfl⟩

theorem open_adapter {b0 : Nat} {r : Reach} {v : Value} {dd : DataW H} {p : List MemPlace} (hv : Value.okWide Try.prog W r b0 24 v) (h : DataW.Trod enc Try.prog W 0 (fun _ => true) true 24 v dd p) :
    ∃ (R S : Int) (L : SL) (Y : Nat → Nat → SL) (m : AdV), v = .agg #[.int .i64 R, .int .i64 S, .slice L.a L.n L.c] ∧ (Lit.int .i64 R).wf = true ∧ (Lit.int .i64 S).wf = true ∧ AdAt W L Y m ∧ m.ln ≤ 9223372036854775807 ∧ (Small dd 24 → m.ln ≤ 20 → FitsA m) := by
  obtain ⟨cs, rfl, hsz⟩ := okWide_struct Try.underlying24 hv
  obtain ⟨c0, c1, c2, rfl⟩ := array3 (hsz.trans ce24)
  obtain ⟨fuel, hf⟩ := h
  have hf' : DataW.trod enc Try.prog W 0 (fun _ => true) true fuel 24 [c0, c1, c2] = some (dd, p) := by simpa [Value.cells] using hf
  obtain ⟨xs, n, -, ex, -, hlen, hg⟩ := DataW.trod_struct Try.underlying24 hf'
  have hl : xs.length = 3 := hlen.trans (by rfl)
  match xs, hl with
  | [x0, x1, x2], _ =>
  have g0 : DataW.trod enc Try.prog W 0 (fun _ => true) true n 3 [c0] = some x0 := by rw [show [c0] = ([c0, c1, c2].drop 0).take (Try.prog.cellsOf 3) by rw [cells3]; rfl]; exact hg 0 _ rfl
  have g1 : DataW.trod enc Try.prog W 0 (fun _ => true) true n 3 [c1] = some x1 := by rw [show [c1] = ([c0, c1, c2].drop 1).take (Try.prog.cellsOf 3) by rw [cells3]; rfl]; exact hg 1 _ rfl
  have g2 : DataW.trod enc Try.prog W 0 (fun _ => true) true n 22 [c2] = some x2 := by rw [show [c2] = ([c0, c1, c2].drop 2).take (Try.prog.cellsOf 22) by rw [ce22]; rfl]; exact hg 2 _ rfl
  obtain ⟨R, eR, -, wR⟩ := DataW.trod_int Try.underlying3 g0
  obtain ⟨S, eS, -, wS⟩ := DataW.trod_int Try.underlying3 g1
  obtain rfl : c0 = .int .i64 R := by simpa using eR
  obtain rfl : c1 = .int .i64 S := by simpa using eS
  obtain ⟨L, F, eL, L1, L2, L3, L4, L5, L6, wL⟩ := open_l g2
  subst eL
  refine ⟨R, S, L, fun i => (F i).Y, ⟨L.n, fun i => (F i).f⟩, rfl, wR, wS, ⟨rfl, L1, L2, L3, L5, L6⟩, L4, fun hs h20 => ?_⟩
  have ed : dd = .agg [x0.1, x1.1, x2.1] := congrArg Prod.fst ex
  rw [ed] at hs
  exact ⟨h20, wL (small_field Try.underlying24 hs (j := 2) rfl rfl)⟩
end

end Go.Proofs.Ytbmlafgolmmekab
