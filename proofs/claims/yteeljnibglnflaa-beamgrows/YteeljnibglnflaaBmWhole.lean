/- A candidate with tokens of its own: a contract of the call. -/
import Derived.Test.YteeljnibglnflaaRows
import Derived.Test.YteeljnibglnflaaView
import Derived.Test.YteeljnibglnflaaOwn
import Derived.Test.YteeljnibglnflaaSoft
import Derived.Test.YteeljnibglnflaaSat
import Derived.Test.YteeljnibglnflaaSatRef
import Derived.Test.YteeljnibglnflaaBmZ
import Derived.Test.YteeljnibglnflaaBmAt
import Derived.Test.YteeljnibglnflaaGMean
import Derived.WalkKit
import Derived.ProofKit
import Derived.OpenShut
import Derived.WalkLawsBesides
import Derived.Below
import Derived.Deep.QuietTactic
import Derived.BigQuiet
import Derived.Laws.AppendOwnNone
import Derived.Test.YteeljnibglnflaaBmFits
import Derived.Test.YteeljnibglnflaaSteps
import Derived.Test.YteeljnibglnflaaRefTop
namespace Go.Proofs.Yteeljnibglnflaa
set_option maxRecDepth 20000
open Go.ChangeShapes Go.WideShapes Go.ChangeAt Go.RowKit
set_option linter.unusedVariables false

/-- the cells of a block of the call's own, and that they may be written -/
theorem lit_cells (w : World) (cs : Array Value) (t : TypeId) (j : Nat) (u : Value) (h : cs[j]? = some u) : (w.alloc (.cells cs t)).cell? ⟨w.heap.size, j, none⟩ = some u := by
  simpa using h

theorem lit_new (w : World) (cs : List Value) (t : TypeId) : ∀ j u, cs[j]? = some u → (w.alloc (.cells cs.toArray t)).cell? ((⟨w.heap.size, 0, none⟩ : Addr).add j) = some u := fun j u h => by
  have := lit_cells w cs.toArray t j u (by simpa using h)
  cases j with
  | zero => simpa [Addr.add] using this
  | succ j => simpa [Addr.add] using this

theorem set3 {W : World} {b : Nat} {u0 u1 u2 : Value} (h0 : W.cell? ⟨b, 0, none⟩ = some u0) (h1 : W.cell? ⟨b, 1, none⟩ = some u1) (h2 : W.cell? ⟨b, 2, none⟩ = some u2) (v0 v1 v2 : Value) :
    (((W.setCell ⟨b, 0, none⟩ v0).setCell ⟨b, 1, none⟩ v1).setCell ⟨b, 2, none⟩ v2).cell? ⟨b, 0, none⟩ = some v0 ∧ (((W.setCell ⟨b, 0, none⟩ v0).setCell ⟨b, 1, none⟩ v1).setCell ⟨b, 2, none⟩ v2).cell? ⟨b, 1, none⟩ = some v1 ∧ (((W.setCell ⟨b, 0, none⟩ v0).setCell ⟨b, 1, none⟩ v1).setCell ⟨b, 2, none⟩ v2).cell? ⟨b, 2, none⟩ = some v2 := by
  have n01 : (⟨b, 0, none⟩ : Addr) ≠ ⟨b, 1, none⟩ := by simp
  have n02 : (⟨b, 0, none⟩ : Addr) ≠ ⟨b, 2, none⟩ := by simp
  have n12 : (⟨b, 1, none⟩ : Addr) ≠ ⟨b, 2, none⟩ := by simp
  refine ⟨?_, ?_, ?_⟩
  · rw [World.cell?_setCell_other _ _ _ _ n02.symm, World.cell?_setCell_other _ _ _ _ n01.symm]
    exact World.cell?_setCell_same _ _ _ h0
  · rw [World.cell?_setCell_other _ _ _ _ n12.symm]
    exact World.cell?_setCell_same _ _ _ ((World.cell?_setCell_other _ _ _ _ n01).trans h1)
  · exact World.cell?_setCell_same _ _ _ ((World.cell?_setCell_other _ _ _ _ n12).trans ((World.cell?_setCell_other _ _ _ _ n02).trans h2))

theorem whole_call (a : Option Addr) (n c : Nat) (ts : List Int) (s : Int) (f : Bool) (p k : Int) (w : World) (h0 : Reads .i64 w a n ts) (hc : a = none → c = 0) (hk : (Lit.int .i64 k).wf = true) (hn : n ≤ 1000000) :
    Calls Try.prog 25 #[.agg #[.slice a n c, .int .i64 s, .bool f, .int .i64 p, .int .i64 k]] w fun e w' => (∃ a' c', e = .returned (.agg #[.slice a' (ts ++ if k = -1 then [] else [k]).length c', .int .i64 s, .bool f]) ∧ Reads .i64 w' a' (ts ++ if k = -1 then [] else [k]).length (ts ++ if k = -1 then [] else [k]) ∧ ((a' = none → c' = 0) ∧ (ts ++ if k = -1 then [] else [k]).length ≤ c') ∧ (∀ x, a' = some x → w.heap.size ≤ x.block)) ∧ Below w.heap.size w w' := by
  obtain ⟨i0, hi, hz0, hz1, hz2⟩ := info_parts info3
  have hm := h0.max
  have hl := h0.len
  obtain ⟨W0, eW0⟩ : ∃ W0, (w.alloc (.cells #[.slice a n c, .int .i64 s, .bool f, .int .i64 p, .int .i64 k] 55)).alloc (.cells #[.slice none 0 0, .int .i64 0, .bool false] 40) = W0 := ⟨_, rfl⟩
  have b0 : Below w.heap.size w W0 := by rw [← eW0]; exact below_new (below_new (Below.refl _ _) _) _
  have s0 : Hid (W0.heap.size = w.heap.size + 2) := by show W0.heap.size = _; rw [← eW0]; simp
  have boxc : ∀ W, Below W0.heap.size W0 W → W.cell? ⟨w.heap.size, 0, none⟩ = some (.slice a n c) ∧ W.cell? ⟨w.heap.size, 1, none⟩ = some (.int .i64 s) ∧ W.cell? ⟨w.heap.size, 2, none⟩ = some (.bool f) ∧ W.cell? ⟨w.heap.size, 4, none⟩ = some (.int .i64 k) := fun W hb => by
    have c : ∀ j, W.cell? ⟨w.heap.size, j, none⟩ = W0.cell? ⟨w.heap.size, j, none⟩ := fun j => hb.cell (by show w.heap.size < _; have := s0.out; omega)
    rw [c, c, c, c, ← eW0]
    simp
  have resc : ∀ W, Below W0.heap.size W0 W → W.heap[w.heap.size + 1]? = some (.cells #[.slice none 0 0, .int .i64 0, .bool false] 40 (0, 0)) := fun W hb => by
    refine (hb.block (w.heap.size + 1) (by have := s0.out; omega)).trans ?_
    rw [← eW0]
    have := heap_alloc_new (w.alloc (.cells #[.slice a n c, .int .i64 s, .bool f, .int .i64 p, .int .i64 k] 55)) (.cells #[.slice none 0 0, .int .i64 0, .bool false] 40)
    simpa using this
  obtain ⟨cx0, cx1, cx2, cx4⟩ := boxc W0 (Below.refl _ _)
  obtain ⟨N1, eN1⟩ : ∃ N1, n + 1 = N1 := ⟨_, rfl⟩
  have zN1 : (n : Int) + 1 = (N1 : Int) := by omega
  obtain ⟨T, eT⟩ : ∃ T, (ts ++ if k = -1 then [] else [k]) = T := ⟨_, rfl⟩
  rw [eT]
  have fin : ∀ (W : World) (v : Value), Below W0.heap.size W0 W → W.ownsRow W0.heap.size 3 1 v T.length (T.map (Value.int .i64)) → ∃ a' c', v = .slice a' T.length c' ∧ ∃ W', ((W.setCell ⟨w.heap.size + 1, 0, none⟩ (.slice a' T.length c')).setCell ⟨w.heap.size + 1, 1, none⟩ (.int .i64 s)).setCell ⟨w.heap.size + 1, 2, none⟩ (.bool f) = W' ∧
      Reads .i64 W' a' T.length T ∧ ((a' = none → c' = 0) ∧ T.length ≤ c') ∧ (∀ x, a' = some x → w.heap.size ≤ x.block) ∧ Below w.heap.size w W' ∧ W'.cell? ⟨w.heap.size + 1, 0, none⟩ = some (.slice a' T.length c') ∧ W'.cell? ⟨w.heap.size + 1, 1, none⟩ = some (.int .i64 s) ∧ W'.cell? ⟨w.heap.size + 1, 2, none⟩ = some (.bool f) := fun W v hb ho => by
    obtain ⟨a', c', rfl, rd⟩ := own_reads (k := .i64) (zs := T) ho rfl (fun z hz => by
      rw [← eT] at hz
      rcases List.mem_append.1 hz with h | h
      · exact h0.wf_mem z h
      · split at h
        · cases h
        · rw [List.mem_singleton.1 h]; exact hk) (fun j hj => copy_at .i64 T j hj)
    have sz := s0.out
    have hge : ∀ x, a' = some x → W0.heap.size ≤ x.block := fun x hx => by
      subst hx
      exact (ho.lt x.block rfl).1
    have hc0 : W.cell? ⟨w.heap.size + 1, 0, none⟩ = some (.slice none 0 0) := by unfold World.cell?; rw [resc W hb]; rfl
    have hc1 : W.cell? ⟨w.heap.size + 1, 1, none⟩ = some (.int .i64 0) := by unfold World.cell?; rw [resc W hb]; rfl
    have hc2 : W.cell? ⟨w.heap.size + 1, 2, none⟩ = some (.bool false) := by unfold World.cell?; rw [resc W hb]; rfl
    refine ⟨a', c', rfl, _, rfl, ?_, ⟨own_none ho, own_cap ho⟩, fun x hx => by have := hge x hx; omega, ?_, ?_, ?_, ?_⟩
    · refine ⟨rd.len, rd.max, rd.wf, rd.some_, fun x hx i hi => ?_⟩
      have hb1 : (x.add i).block = x.block := by simp only [Addr.add]; split <;> rfl
      have hne : (x.add i).block ≠ w.heap.size + 1 := by have := hge x hx; omega
      rw [World.cell?_setCell_other _ _ _ _ (fun e => hne (by rw [← e])), World.cell?_setCell_other _ _ _ _ (fun e => hne (by rw [← e])), World.cell?_setCell_other _ _ _ _ (fun e => hne (by rw [← e]))]
      exact rd.cell x hx i hi
    · exact (((below_then b0 hb).setCell (by show w.heap.size ≤ w.heap.size + 1; omega) _).setCell (by show w.heap.size ≤ w.heap.size + 1; omega) _).setCell (by show w.heap.size ≤ w.heap.size + 1; omega) _
    · exact (set3 hc0 hc1 hc2 _ _ _).1
    · exact (set3 hc0 hc1 hc2 _ _ _).2.1
    · exact (set3 hc0 hc1 hc2 _ _ _).2.2
  have resq : ∀ W, Below W0.heap.size W0 W → W.cell? ⟨w.heap.size + 1, 0, none⟩ = some (.slice none 0 0) ∧ W.cell? ⟨w.heap.size + 1, 1, none⟩ = some (.int .i64 0) ∧ W.cell? ⟨w.heap.size + 1, 2, none⟩ = some (.bool false) ∧ W.frozen? ⟨w.heap.size + 1, 0, none⟩ = false ∧ W.frozen? ⟨w.heap.size + 1, 1, none⟩ = false ∧ W.frozen? ⟨w.heap.size + 1, 2, none⟩ = false := fun W hb => by
    refine ⟨?_, ?_, ?_, ?_, ?_, ?_⟩
    · unfold World.cell?; rw [resc W hb]; rfl
    · unfold World.cell?; rw [resc W hb]; rfl
    · unfold World.cell?; rw [resc W hb]; rfl
    · unfold World.frozen?; rw [resc W hb]; rfl
    · unfold World.frozen?; rw [resc W hb]; rfl
    · unfold World.frozen?; rw [resc W hb]; rfl
  have FIN : Hid _ := fin
  have RES : Hid _ := resq
  have HE : Hid ((ts ++ if k = -1 then [] else [k]) = T) := eT
  clear eT fin resc resq
  by_cases hk1 : k = -1
  · have ET : Hid (ts = T) := by have := HE.out; rw [if_pos hk1, List.append_nil] at this; exact this
    clear HE
    subst hk1
    go_enter Try.func25, Try.ntmps25
    go_wp2_with (first
      | (at_make; refine wpList_make_own _ rfl _ (.tmp 8) 29 rfl W0.heap.size 3 i0 (.int .i64 0) 1 Try.underlying29 hi hz0 hz1 .i64 .i64 _ N1 rfl rfl rfl (by rw [hz2]; omega) (by unfold maxLen; omega) (Nat.le_refl _) ?_; intro w1 hown hgrow
         have hb1 : Below W0.heap.size W0 w1 := (Below.refl _ _).grown hgrow (Nat.le_refl _) (fun k h => by cases h)
         obtain ⟨cy0, cy1, cy2, cy4⟩ := boxc w1 hb1
         have r1 := h0.below (below_then b0 hb1))
      | (at_builtin; refine wpList_copy rfl (.tmp 10) (.tmp 13) 29 rfl W0.heap.size 3 i0 (.int .i64 0) 8 Try.underlying29 hi hz0 hz1 hz2 rfl _ 0 [] rfl hown .i64 a n c ts rfl r1 hc (by unfold maxLen; omega) (by omega) hb1.size ?_; intro v2 w2 hown2 hg2
         have hb2 : Below W0.heap.size W0 w2 := hb1.grown hg2 hb1.size (fun g h => (hown.lt g h).1)
         obtain ⟨cy0, cy1, cy2, cy4⟩ := boxc w2 hb2
         obtain ⟨q0, q1, q2, q3, q4, q5⟩ := RES.out w2 hb2
         obtain ⟨a', c', ev, W', eW', g1, g2, g3, g4, g5, g6, g7⟩ := FIN.out w2 v2 hb2 (by rw [← ET.out, hl]; simpa using hown2)
         subst ev
         clear hown hown2 hg2 hgrow))
    refine bodyPost_ret (v := .agg #[.slice a' T.length c', .int .i64 s, .bool f]) ?_ rfl ⟨⟨a', c', rfl, g1, g2, g3⟩, g4⟩
    simp [results, Try.f25, go_sem, g5, g6, g7]
  · have ET : Hid (ts ++ [k] = T) := by have := HE.out; rw [if_neg hk1] at this; exact this
    have tk : (k == -1) = false := by simp [hk1]
    clear HE
    go_enter Try.func25, Try.ntmps25
    go_wp2_with (first
      | (at_make; refine wpList_make_own _ rfl _ (.tmp 8) 29 rfl W0.heap.size 3 i0 (.int .i64 0) 1 Try.underlying29 hi hz0 hz1 .i64 .i64 _ N1 rfl rfl rfl (by rw [hz2]; omega) (by unfold maxLen; omega) (Nat.le_refl _) ?_; intro w1 hown hgrow
         have hb1 : Below W0.heap.size W0 w1 := (Below.refl _ _).grown hgrow (Nat.le_refl _) (fun k h => by cases h)
         obtain ⟨cy0, cy1, cy2, cy4⟩ := boxc w1 hb1
         have r1 := h0.below (below_then b0 hb1))
      | (at_builtin; refine wpList_copy rfl (.tmp 10) (.tmp 13) 29 rfl W0.heap.size 3 i0 (.int .i64 0) 8 Try.underlying29 hi hz0 hz1 hz2 rfl _ 0 [] rfl hown .i64 a n c ts rfl r1 hc (by unfold maxLen; omega) (by omega) hb1.size ?_; intro v2 w2 hown2 hg2
         have hb2 : Below W0.heap.size W0 w2 := hb1.grown hg2 hb1.size (fun g h => (hown.lt g h).1)
         obtain ⟨cy0, cy1, cy2, cy4⟩ := boxc w2 hb2
         clear hown)
      | (at_builtin; refine wpList_append_own _ rfl (.tmp 18) (.tmp 21) 29 rfl W0.heap.size 3 i0 (.int .i64 0) 1 8 Try.underlying29 hi hz0 hz1 hz2 rfl (by decide) _ _ _ rfl (hown2.alloc _) ⟨_, 0, none⟩ 1 1 [.int .i64 k] rfl rfl (one_new _ _ _) (one_oneCell _ _) (by unfold maxLen; omega) (by omega) (by have := hb2.size; simp; omega) ?_; intro v3 w3 hown3 hg3 _
         have hb3 : Below W0.heap.size W0 w3 := (hb2.alloc hb2.size _).grown hg3 (by have := hb2.size; simp; omega) (fun g h => (hown2.lt g h).1)
         obtain ⟨cy0, cy1, cy2, cy4⟩ := boxc w3 hb3
         obtain ⟨q0, q1, q2, q3, q4, q5⟩ := RES.out w3 hb3
         obtain ⟨a', c', ev, W', eW', g1, g2, g3, g4, g5, g6, g7⟩ := FIN.out w3 v3 hb3 (by rw [← ET.out, List.length_append, hl]; simpa using hown3)
         subst ev
         clear hown2 hown3 hg2 hg3 hgrow))
    refine bodyPost_ret (v := .agg #[.slice a' T.length c', .int .i64 s, .bool f]) ?_ rfl ⟨⟨a', c', rfl, g1, g2, g3⟩, g4⟩
    simp [results, Try.f25, go_sem, g5, g6, g7]

end Go.Proofs.Yteeljnibglnflaa
