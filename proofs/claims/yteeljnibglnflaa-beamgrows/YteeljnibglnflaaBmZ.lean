/- Beams as plain values: what a token more makes of them, which are the best, their final scores. -/
import Derived.Test.YteeljnibglnflaaRows
import Derived.Test.YteeljnibglnflaaSat
import Derived.Test.YteeljnibglnflaaRanks
namespace Go.Proofs.Yteeljnibglnflaa
set_option maxRecDepth 20000
set_option linter.unusedVariables false

/-- a beam: its tokens, its score, whether it is done -/
structure Bm where
  t : List Int
  s : Int
  f : Bool

def b0 : Bm := ⟨[], 0, false⟩

/-- a candidate: the place of its beam, the new token (-1: none), its score, whether it is done -/
structure Cd where
  p : Nat
  k : Int
  s : Int
  f : Bool

def c0 : Cd := ⟨0, -1, 0, false⟩

/-- how many of the first i beams are not done -/
def liveTo (L : Nat → Bm) : Nat → Nat
  | 0 => 0
  | i + 1 => liveTo L i + (if (L i).f = true then 0 else 1)

theorem liveTo_le (L : Nat → Bm) (i : Nat) : liveTo L i ≤ i := by
  induction i with
  | zero => exact Nat.le_refl _
  | succ i ih => unfold liveTo; split <;> omega

theorem liveTo_mono (L : Nat → Bm) {i j : Nat} (h : i ≤ j) : liveTo L i ≤ liveTo L j := by
  induction j with
  | zero => obtain rfl : i = 0 := by omega
            exact Nat.le_refl _
  | succ j ih =>
    by_cases e : i = j + 1
    · subst e; exact Nat.le_refl _
    · have := ih (by omega)
      show _ ≤ liveTo L j + _
      omega

theorem liveTo_live (L : Nat → Bm) {i n : Nat} (hi : i < n) (hf : (L i).f = false) : liveTo L i < liveTo L n := by
  have h1 : liveTo L (i + 1) = liveTo L i + 1 := by
    show liveTo L i + _ = _
    rw [hf]; rfl
  have := liveTo_mono L (show i + 1 ≤ n by omega)
  omega

/-- the greatest of the first n, clamped -/
def topTo (row : List Int) : Nat → Int
  | 0 => -2147483648
  | n + 1 => max (topTo row n) (clampZ (row.getD n 0))

def topC (row : List Int) : Int := topTo row row.length

theorem topTo_bounds (row : List Int) (n : Nat) : -2147483648 ≤ topTo row n ∧ topTo row n ≤ 2147483647 := by
  induction n with
  | zero => unfold topTo; omega
  | succ n ih => have := clampZ_bounds (row.getD n 0); unfold topTo; omega

theorem topTo_le (row : List Int) {i n : Nat} (h : i < n) : clampZ (row.getD i 0) ≤ topTo row n := by
  induction n with
  | zero => omega
  | succ n ih =>
    unfold topTo
    by_cases e : i = n
    · subst e; omega
    · have := ih (by omega); omega

theorem topTo_is (row : List Int) {n : Nat} (h : 0 < n) : ∃ i, i < n ∧ topTo row n = clampZ (row.getD i 0) := by
  induction n with
  | zero => omega
  | succ n ih =>
    unfold topTo
    by_cases e : topTo row n ≤ clampZ (row.getD n 0)
    · exact ⟨n, by omega, by omega⟩
    · by_cases hn : 0 < n
      · obtain ⟨i, hi, ei⟩ := ih hn
        exact ⟨i, by omega, by omega⟩
      · obtain rfl : n = 0 := by omega
        have := clampZ_bounds (row.getD 0 0)
        unfold topTo at e
        omega

/-- a token's loss -/
def lossZ (row : List Int) (i : Nat) : Int := clampZ (clampZ (row.getD i 0) - topC row)

theorem clampZ_of {x : Int} (h1 : -2147483648 ≤ x) (h2 : x ≤ 2147483647) : clampZ x = x := by unfold clampZ; omega

theorem lossZ_le (row : List Int) {i : Nat} (h : i < row.length) : lossZ row i ≤ 0 := by
  have h1 := topTo_le row h
  have h2 := clampZ_bounds (row.getD i 0)
  unfold lossZ topC clampZ at *
  omega

/-- the candidates of the beam at place p with the first n tokens of a row -/
def grownTo (b : Bm) (p : Nat) (row : List Int) (len stop : Int) (n : Nat) : List Cd :=
  (List.range n).map fun (i : Nat) => ⟨p, (i : Int), clampZ (clampZ b.s + lossZ row i), decide (len ≤ (b.t.length : Int) + 1) || decide ((i : Int) = stop)⟩

theorem grownTo_succ (b : Bm) (p : Nat) (row : List Int) (len stop : Int) (n : Nat) : grownTo b p row len stop (n + 1) = grownTo b p row len stop n ++ [⟨p, (n : Int), clampZ (clampZ b.s + lossZ row n), decide (len ≤ (b.t.length : Int) + 1) || decide ((n : Int) = stop)⟩] := by
  simp [grownTo, List.range_succ]

theorem grownTo_length (b : Bm) (p : Nat) (row : List Int) (len stop : Int) (n : Nat) : (grownTo b p row len stop n).length = n := by simp [grownTo]

/-- the candidates of one beam -/
def candOf (L : Nat → Bm) (R : Nat → List Int) (len stop : Int) (i : Nat) : List Cd :=
  if (L i).f = true then [⟨i, -1, (L i).s, true⟩] else grownTo (L i) i (R (liveTo L i)) len stop (R (liveTo L i)).length

/-- the candidates of the first i beams -/
def candTo (L : Nat → Bm) (R : Nat → List Int) (len stop : Int) : Nat → List Cd
  | 0 => []
  | i + 1 => candTo L R len stop i ++ candOf L R len stop i

theorem candOf_mem {L : Nat → Bm} {R : Nat → List Int} {len stop : Int} {i : Nat} {c : Cd} (h : c ∈ candOf L R len stop i) : c.p = i ∧
    (((L i).f = true ∧ c = ⟨i, -1, (L i).s, true⟩) ∨ ((L i).f = false ∧ ∃ j, j < (R (liveTo L i)).length ∧ c = ⟨i, (j : Int), clampZ (clampZ (L i).s + lossZ (R (liveTo L i)) j), decide (len ≤ ((L i).t.length : Int) + 1) || decide ((j : Int) = stop)⟩)) := by
  unfold candOf at h
  split at h
  · rename_i hf
    obtain rfl := List.mem_singleton.1 h
    exact ⟨rfl, .inl ⟨hf, rfl⟩⟩
  · rename_i hf
    obtain ⟨j, hj, e⟩ := List.mem_map.1 h
    subst e
    exact ⟨rfl, .inr ⟨by simpa using hf, j, List.mem_range.1 hj, rfl⟩⟩

theorem candTo_mem {L : Nat → Bm} {R : Nat → List Int} {len stop : Int} {n : Nat} {c : Cd} (h : c ∈ candTo L R len stop n) : c.p < n ∧ c ∈ candOf L R len stop c.p := by
  induction n with
  | zero => cases h
  | succ n ih =>
    rcases List.mem_append.1 h with h | h
    · have := ih h; exact ⟨by omega, this.2⟩
    · have e := (candOf_mem h).1
      exact ⟨by omega, by rw [e]; exact h⟩

theorem candOf_count (L : Nat → Bm) (R : Nat → List Int) (len stop : Int) (i K : Nat) (h : (R (liveTo L i)).length ≤ K ∨ (L i).f = true) (hK : 1 ≤ K) : (candOf L R len stop i).length ≤ K := by
  unfold candOf
  split
  · simpa using hK
  · rename_i hf
    rw [grownTo_length]
    rcases h with h | h
    · exact h
    · exact absurd h hf

theorem candTo_count (L : Nat → Bm) (R : Nat → List Int) (len stop : Int) (n K : Nat) (h : ∀ i, i < n → (L i).f = false → (R (liveTo L i)).length ≤ K) (hK : 1 ≤ K) : (candTo L R len stop n).length ≤ n * K := by
  induction n with
  | zero => simp [candTo]
  | succ n ih =>
    have h1 := ih fun i hi => h i (by omega)
    have h2 := candOf_count L R len stop n K (by cases e : (L n).f with | true => exact .inr rfl | false => exact .inl (h n (by omega) e)) hK
    rw [candTo, List.length_append, Nat.add_mul]
    omega

/-- the beam that a candidate is -/
def wholeZ (L : Nat → Bm) (c : Cd) : Bm := ⟨(L c.p).t ++ (if c.k = -1 then [] else [c.k]), c.s, c.f⟩

/-- do the rows fit? -/
def fitB (L : Nat → Bm) (n : Nat) (R : Nat → List Int) (m : Nat) : Bool := decide (0 < n) && decide (m = liveTo L n) && (List.range m).all fun r => decide (0 < (R r).length)

def growE (L : Nat → Bm) (n : Nat) (R : Nat → List Int) (m : Nat) (width : Int) : Int :=
  if width < 1 ∨ 4 < width then 20 else if fitB L n R m = true then 0 else 21

/-- the candidates' scores -/
def scoresZ (cs : List Cd) : List Int := cs.map Cd.s

/-- the best candidates -/
def bestZ (cs : List Cd) (width : Int) : List Cd := ((places (scoresZ cs)).take width.toNat).map fun i => cs.getD i c0

/-- what Grow answers -/
def growL (L : Nat → Bm) (n : Nat) (R : Nat → List Int) (m : Nat) (width len stop : Int) : List Cd :=
  if growE L n R m width = 0 then bestZ (candTo L R len stop n) width else []

def growB (L : Nat → Bm) (G : List Cd) (i : Nat) : Bm := wholeZ L (G.getD i c0)

def growP (G : List Cd) : List Int := G.map fun c => (c.p : Int)

theorem bestZ_length (cs : List Cd) (width : Int) : (bestZ cs width).length = min width.toNat cs.length := by simp [bestZ, places_length, scoresZ]

theorem bestZ_at (cs : List Cd) (width : Int) {i : Nat} (h : i < min width.toNat cs.length) : (bestZ cs width).getD i c0 = cs.getD ((places (scoresZ cs)).getD i 0) c0 := by
  have h1 : i < width.toNat := by omega
  have h2 : i < (places (scoresZ cs)).length := by rw [places_length]; simp [scoresZ]; omega
  simp [bestZ, List.getD, h1, h2]

theorem place_lt (cs : List Cd) {i : Nat} (h : i < cs.length) : (places (scoresZ cs)).getD i 0 < cs.length := by
  have := (places_ordered (scoresZ cs)).lt (m := i) (by simp [scoresZ]; exact h)
  simpa [scoresZ] using this

theorem getD_mem {cs : List Cd} {i : Nat} (h : i < cs.length) : cs.getD i c0 ∈ cs := by
  have : cs.getD i c0 = cs[i] := by simp [List.getD, h]
  rw [this]
  exact List.getElem_mem h

theorem scores_at (cs : List Cd) {i : Nat} (h : i < cs.length) : (scoresZ cs).getD i 0 = (cs.getD i c0).s := by simp [scoresZ, List.getD, h]

/-- a final score -/
def finalZ (b : Bm) (p : Int) : Int := divZ b.s (65536 + 4096 * (min 64 (max 0 p)) * (min 1000 (b.t.length : Int)))

def finals (L : Nat → Bm) (n : Nat) (p : Int) : List Int := (List.range n).map fun i => finalZ (L i) p

end Go.Proofs.Yteeljnibglnflaa
