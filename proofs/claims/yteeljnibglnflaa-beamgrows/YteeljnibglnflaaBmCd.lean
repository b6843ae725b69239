/- Candidates as they lie in memory; the sort of them: contracts of the calls. -/
import Derived.Test.YteeljnibglnflaaRows
import Derived.Test.YteeljnibglnflaaBmZ
import Derived.Test.YteeljnibglnflaaBmAt
import Derived.Test.YteeljnibglnflaaBmStab
import Derived.Test.YteeljnibglnflaaBmFits
import Derived.Test.YteeljnibglnflaaBmWhole
import Derived.Test.YteeljnibglnflaaRanks
import Derived.WalkKit
import Derived.ProofKit
import Derived.OpenShut
import Derived.WalkLawsBesides
import Derived.Below
import Derived.Deep.QuietTactic
import Derived.BigQuiet
import Derived.Laws.AppendOwnNone
namespace Go.Proofs.Yteeljnibglnflaa
set_option maxRecDepth 20000
open Go.ChangeShapes Go.WideShapes Go.ChangeAt Go.RowKit Go.Shelf Go.Lib Go.Sort
set_option linter.unusedVariables false

/-- the cells of a candidate -/
def cdC (A : Nat → Option Addr) (C : Nat → Nat) (L : Nat → Bm) (c : Cd) : List Value := [.slice (A c.p) (L c.p).t.length (C c.p), .int .i64 c.s, .bool c.f, .int .i64 (c.p : Nat), .int .i64 c.k]

theorem cdC_len (A : Nat → Option Addr) (C : Nat → Nat) (L : Nat → Bm) (c : Cd) : (cdC A C L c).length = 5 := rfl

def cdF (A : Nat → Option Addr) (C : Nat → Nat) (L : Nat → Bm) (cs : List Cd) (r : Nat) : List Value := cdC A C L (cs.getD r c0)

theorem list_range {α : Type} (xs : List α) (d : α) : xs = (List.range xs.length).map fun i => xs.getD i d := by
  apply List.ext_getElem
  · simp
  · intro i h1 h2
    simp [List.getD, h1]

theorem cds_flat (A : Nat → Option Addr) (C : Nat → Nat) (L : Nat → Bm) (cs : List Cd) : cs.flatMap (cdC A C L) = flat (cdF A C L cs) cs.length := by
  conv => lhs; rw [list_range cs c0]
  unfold flat cdF
  rw [List.flatMap_map]

theorem cds_one (A : Nat → Option Addr) (C : Nat → Nat) (L : Nat → Bm) (c : Cd) : [c].flatMap (cdC A C L) = cdC A C L c := by simp

theorem cdC_cell (A : Nat → Option Addr) (C : Nat → Nat) (L : Nat → Bm) (c : Cd) : ∀ u ∈ cdC A C L c, u.oneCell' = true := by
  intro u hu
  simp only [cdC, List.mem_cons, List.not_mem_nil, or_false] at hu
  rcases hu with rfl | rfl | rfl | rfl | rfl <;> rfl

theorem nodup_le : ∀ (n : Nat) (l : List Nat), l.Nodup → (∀ x ∈ l, x < n) → l.length ≤ n
  | 0, l, _, h => by
    cases l with
    | nil => simp
    | cons x l => exact absurd (h x (by simp)) (by omega)
  | n + 1, l, hd, h => by
    by_cases hn : n ∈ l
    · have h1 := nodup_le n (l.erase n) (hd.erase n) (fun x hx => by
        have := (List.Nodup.mem_erase_iff hd).1 hx
        have := h x this.2
        omega)
      rw [List.length_erase_of_mem hn] at h1
      omega
    · have h1 := nodup_le n l hd (fun x hx => by
        have := h x hx
        have : x ≠ n := fun e => hn (e ▸ hx)
        omega)
      omega

theorem nodup_perm : ∀ (n : Nat) (l : List Nat), l.Nodup → (∀ x ∈ l, x < n) → l.length = n → l.Perm (List.range n)
  | 0, l, _, h, hl => by
    obtain rfl := List.eq_nil_of_length_eq_zero hl
    exact List.Perm.refl _
  | n + 1, l, hd, h, hl => by
    have hn : n ∈ l := by
      apply Classical.byContradiction
      intro hn
      have h1 := nodup_le n l hd (fun x hx => by
        have := h x hx
        have : x ≠ n := fun e => hn (e ▸ hx)
        omega)
      omega
    have h1 := nodup_perm n (l.erase n) (hd.erase n) (fun x hx => by
        have := (List.Nodup.mem_erase_iff hd).1 hx
        have := h x this.2
        omega) (by rw [List.length_erase_of_mem hn]; omega)
    rw [List.range_succ]
    exact (List.perm_cons_erase hn).trans ((h1.cons n).trans (List.perm_append_singleton n _).symm)

theorem range_at {n i : Nat} (h : i < n) : (Array.range n)[i]! = i := by
  rw [getElem!_pos _ i (by simpa using h)]
  simp

/-- the candidates' score at a place -/
def scAt (cs : List Cd) (i : Nat) : Int := (cs.getD i c0).s

theorem sorted_places (cs : List Cd) (dF : Array Nat) (m : Mv 0 cs.length (Array.range cs.length) dF) (s : Srt (scAt cs) dF 0 cs.length) : ∀ i, i < cs.length → dF[i]! = (places (scoresZ cs)).getD i 0 := by
  have hs : dF.size = cs.length := by rw [m.size]; simp
  have hl : ∀ i, i < cs.length → dF[i]! < cs.length := fun i hi => by
    obtain ⟨y, _, hy, e⟩ := m.from_ i (Nat.zero_le _) hi
    rw [e, range_at hy]
    exact hy
  have hx : (scoresZ cs).length = cs.length := by simp [scoresZ]
  have ha : ∀ i j, i < j → j < cs.length → ahead (scoresZ cs) dF[i]! dF[j]! = true := fun i j hij hj => by
    have b := s i j (Nat.zero_le _) hij hj
    rw [ahead_iff, scores_at cs (hl i (by omega)), scores_at cs (hl j hj)]
    exact b
  have hg : ∀ i (h : i < dF.toList.length), dF.toList[i] = dF[i]! := fun i h => by
    rw [getElem!_pos _ i (by simpa using h), Array.getElem_toList]
  have O : Ordered (scoresZ cs) cs.length dF.toList := by
    have pw : dF.toList.Pairwise fun i j => ahead (scoresZ cs) i j = true := by
      rw [List.pairwise_iff_getElem]
      intro i j hi hj hij
      rw [hg, hg]
      exact ha i j hij (by rw [← hs]; simpa using hj)
    refine ⟨nodup_perm _ _ (pw.imp fun h => ?_) (fun x hx => ?_) (by simpa using hs), pw⟩
    · intro e
      subst e
      rw [ahead_irrefl] at h
      cases h
    · obtain ⟨i, hi, rfl⟩ := List.getElem_of_mem hx
      rw [hg]
      exact hl i (by rw [← hs]; simpa using hi)
  have P := places_ordered (scoresZ cs)
  rw [hx] at P
  intro i hi
  have r := O.rank hi
  have e : dF.toList.getD i 0 = dF[i]! := by
    have h : i < dF.toList.length := by simpa [hs] using hi
    rw [List.getD_eq_getElem?_getD, List.getElem?_eq_getElem h, hg]
    rfl
  rw [e] at r
  exact ((P.rank_iff (hl i hi) hi).1 r).symm

/-- n candidates from x on -/
def CdAt (w : World) (x : Addr) (n : Nat) (A : Nat → Option Addr) (C : Nat → Nat) (L : Nat → Bm) (G : Nat → Cd) : Prop :=
  ∀ r, r < n → ∀ f u, (cdC A C L (G r))[f]? = some u → w.cell? ((x.add (r * 5)).add f) = some u

theorem CdAt.carry {w w' : World} {x : Addr} {n : Nat} {A : Nat → Option Addr} {C : Nat → Nat} {L : Nat → Bm} {G : Nat → Cd} (h : CdAt w x n A C L G) (hc : ∀ p v, p.block = x.block → w.cell? p = some v → w'.cell? p = some v) : CdAt w' x n A C L G :=
  fun r hr f u hu => hc _ _ (by simp only [Addr.add]; split <;> (try split) <;> rfl) (h r hr f u hu)

theorem CdAt.at5 {w : World} {x : Addr} {n : Nat} {A : Nat → Option Addr} {C : Nat → Nat} {L : Nat → Bm} {G : Nat → Cd} (h : CdAt w x n A C L G) {r : Nat} (hr : r < n) :
    ∃ y, x.add (r * 5) = y ∧ w.cell? y = some (.slice (A (G r).p) (L (G r).p).t.length (C (G r).p)) ∧ w.cell? ⟨y.block, y.off + 1, none⟩ = some (.int .i64 (G r).s) ∧ w.cell? ⟨y.block, y.off + 2, none⟩ = some (.bool (G r).f) ∧ w.cell? ⟨y.block, y.off + 3, none⟩ = some (.int .i64 ((G r).p : Nat)) ∧ w.cell? ⟨y.block, y.off + 4, none⟩ = some (.int .i64 (G r).k) := by
  have d := h r hr
  obtain ⟨y, ey⟩ : ∃ y, x.add (r * 5) = y := ⟨_, rfl⟩
  rw [ey] at d
  exact ⟨y, ey, d 0 _ rfl, d 1 _ rfl, d 2 _ rfl, d 3 _ rfl, d 4 _ rfl⟩

theorem holdsK_of {w : World} {B : Nat} {n g cap : Nat} {F : Nat → List Value} (hF : ∀ r, (F r).length = 5) (h : w.ownsRow B 55 5 (.slice (some ⟨g, 0, none⟩) n cap) n (flat F n)) : HoldsK F 5 w g 0 (Array.range n) := by
  intro t ht
  have ht' : t < n * 5 := by simpa using ht
  have hr : t / 5 < n := by omega
  have hf : t % 5 < 5 := Nat.mod_lt _ (by decide)
  have e : (flatK F 5 (Array.range n))[t]! = (F (t / 5))[t % 5]! := by
    rw [get_flatK _ _ _ _ (by simpa using ht'), range_at hr]
  have hu : (F (t / 5))[t % 5]? = some (F (t / 5))[t % 5]! := by
    rw [getElem!_pos _ _ (by rw [hF]; exact hf)]
    exact List.getElem?_eq_getElem _
  refine ⟨?_, ?_⟩
  · have c := h.cells (g := g) rfl t _ (by
      have := flat_at hF hr hf
      rw [show t / 5 * 5 + t % 5 = t by omega] at this
      exact this.trans hu)
    rw [e, Nat.zero_add]
    cases t with
    | zero => simpa [Addr.add] using c
    | succ t => simpa [Addr.add] using c
  · rcases h.2 with ⟨h1, _⟩ | ⟨g', cap', cur, h1, _, hb, _⟩
    · cases h1
    · simp only [Value.slice.injEq, Option.some.injEq, Addr.mk.injEq] at h1
      obtain ⟨⟨rfl, _⟩, _⟩ := h1
      unfold World.frozen?
      rw [hb]
      simp

theorem below_sortK (enc : Nat → List Value) (w w' : World) (blk B : Nat) (dk : Array Nat) (h : blk < w.heap.size) (hB : B ≤ blk) (S : SWK enc 5 w blk 0 dk w') : Below B w w' ∧ ∀ p v, p.block ≠ blk → w.cell? p = some v → w'.cell? p = some v := by
  obtain ⟨n, os, rfl⟩ := S
  refine ⟨⟨rfl, rfl, rfl, ?_, fun k hk => ?_⟩, fun p v hp hv => ?_⟩
  · unfold sortWorldK
    rw [Go.Sort.size_grow, size_putRowK]
    show w.heap.size ≤ w.heap.size + _
    omega
  · show ((w.heap.modify blk _) ++ os)[k]? = w.heap[k]?
    rw [Array.getElem?_append_left (by simp; omega), Array.getElem?_modify, if_neg (by omega)]
  · unfold sortWorldK
    rw [cell?_grow _ _ _ (by rw [size_putRowK]; exact World.block_lt_of_cell? _ _ hv)]
    unfold putRowK
    rw [cell?_putRow_other _ _ _ _ _ _ (.inl hp)]
    exact hv

/-- the sort of candidates -/
theorem sort_call (A : Nat → Option Addr) (C : Nat → Nat) (L : Nat → Bm) (cs : List Cd) (B g cap : Nat) (w : World) (h : w.ownsRow B 55 5 (.slice (some ⟨g, 0, none⟩) cs.length cap) cs.length (cs.flatMap (cdC A C L))) (hn : cs.length ≤ 10000000) :
    Calls Try.prog 22 #[.slice (some ⟨g, 0, none⟩) cs.length cap, .func (.func 23) #[] #[]] w fun e w' => e = .returned (.tuple #[]) ∧ CdAt w' ⟨g, 0, none⟩ cs.length A C L (fun r => cs.getD ((places (scoresZ cs)).getD r 0) c0) ∧ Below B w w' ∧ ∀ p v, p.block ≠ g → w.cell? p = some v → w'.cell? p = some v := by
  have hg := h.lt g rfl
  rw [cds_flat] at h
  have hH := holdsK_of (fun r => cdC_len A C L _) h
  have R : RowK (cdF A C L cs) 5 w g 0 (Array.range cs.length) := ⟨fun r => cdC_len A C L _, fun r => cdC_cell A C L _, hH, hg.2⟩
  have eg : ∀ args w, (callFunc 23 args).run Try.prog w = .ok (.enter 23 args) w := enters_of Try.func23 (by decide) rfl
  have hcmp : CmpLays Try.prog 23 #[] (cdF A C L cs) 5 (fun x y => cmpZ (scAt cs y) (scAt cs x)) g 0 (Array.range cs.length).size w := fun m os dk hs x y => by
    refine (closure_call _ _ (scAt cs x) (scAt cs y) _ _ _ _ _ _ rfl rfl _).mono ?_
    rintro e w' ⟨rfl, o, o', rfl⟩
    refine ⟨rfl, 0, #[o] ++ #[o'], ?_⟩
    rw [alloc_eq_grow, alloc_eq_grow, grow_grow]
    rfl
  have c := stable_call srtTry (cdF A C L cs) (fun x y => cmpZ (scAt cs y) (scAt cs x)) (scAt cs) (fun x y => by
      unfold cmpZ
      constructor
      · intro h
        apply Classical.byContradiction
        intro h1
        rw [if_neg h1] at h
        split at h <;> omega
      · intro h
        rw [if_pos h]
        decide) 23 #[] g 0 cap cs.length (Array.range cs.length) w eg hcmp R (by simp) (by omega) (fun i j _ hij hj e => by rw [range_at (by omega), range_at hj]; exact hij)
  have c' : Calls Try.prog 35 #[.slice (some ⟨g, 0, none⟩) cs.length cap, .int .i64 cs.length, .func (.func 23) #[] #[]] w fun e w' => e = .returned (.tuple #[]) ∧ CdAt w' ⟨g, 0, none⟩ cs.length A C L (fun r => cs.getD ((places (scoresZ cs)).getD r 0) c0) ∧ Below B w w' ∧ ∀ p v, p.block ≠ g → w.cell? p = some v → w'.cell? p = some v := by
    refine c.mono ?_
    rintro e w' ⟨h1, dF, h2, h3, h4⟩
    have hs : dF.size = cs.length := by rw [h2.size]; simp
    refine ⟨h1, fun r hr f u hu => ?_, below_sortK _ _ _ _ _ _ hg.2 hg.1 h4⟩
    have k := HoldsK.cells (h4.holds R.hblk R.hH (by rw [hs]; simp)) R.hk (i := r) (by omega) f u (by rw [sorted_places cs dF h2 h3 r hr]; exact hu)
    rw [Nat.zero_add] at k
    have e : (⟨g, 0, none⟩ : Addr).add (r * 5) = ⟨g, r * 5, none⟩ := by
      cases r with
      | zero => simp [Addr.add]
      | succ r => simp [Addr.add]
    rw [e]
    exact k
  clear c hcmp R hH h
  obtain ⟨n, en⟩ : ∃ n, cs.length = n := ⟨_, rfl⟩
  rw [en] at c' hn ⊢
  clear en
  go_enter Try.func22, Try.ntmps22
  go_wp2_with (go_at_call 35; refine c'.mono ?_; rintro e w' ⟨rfl, h1, h2, h3⟩)
  go_end0
  exact ⟨rfl, h1, h2, h3⟩

end Go.Proofs.Yteeljnibglnflaa
