/- Where something waits; whose turn it is. -/
import Derived.Test.YtkjmlbllpnehlaaRows
import Derived.Test.YtkjmlbllpnehlaaView
import Derived.Test.YtkjmlbllpnehlaaOwn
import Derived.Test.YtkjmlbllpnehlaaBase
import Derived.Test.YtkjmlbllpnehlaaFkZ
import Derived.Test.YtkjmlbllpnehlaaFkBy
import Derived.Test.YtkjmlbllpnehlaaFkAt
import Derived.Test.YtkjmlbllpnehlaaFkRd
import Derived.WalkKit
import Derived.ProofKit
import Derived.OpenShut
import Derived.Below
import Derived.WalkLawsBesides
import Derived.Deep.QuietTactic
import Derived.BigQuiet
import Derived.OwnWalk
namespace Go.Proofs.Ytkjmlbllpnehlaa
set_option maxRecDepth 20000
open Go.ChangeShapes Go.WideShapes Go.ChangeAt Go.RowKit
set_option linter.unusedVariables false
set_option linter.unusedSimpArgs false

/-- the place of an id in a row -/
theorem index_yes {w : World} {a : Option Addr} {c : Nat} {l : List It} (h : ReadsT w a l) (id : Int) (b : Nat) (hb : w.cell? ⟨b, 0, none⟩ = some (.int .i64 id)) {K : Nat} (hK : K < l.length) (he : l[K].id = id) (hn : ∀ j (hj : j < K), l[j].id ≠ id) :
    Calls Try.prog 31 #[.slice a l.length c, .func (.func 32) #[] #[.pointer (some ⟨b, 0, none⟩)]] w fun e w' => e = .returned (.int .i64 (K : Int)) ∧ Below w.heap.size w w' := by
  have HR := hidden_ h
  have HN := hidden_ hn
  have HE := hidden_ he
  have HB := hidden_ hb
  have hmax := h.max
  clear h hn hb he
  obtain ⟨n, en⟩ : ∃ n, l.length = n := ⟨_, rfl⟩
  rw [en] at hmax ⊢
  have EN := hidden_ en
  have hK' : K < n := by omega
  clear en
  go_enter Try.func31, Try.ntmps31
  go_wp2
  go_loopw [8] (fun i wr => ∃ k : Nat, k ≤ K ∧ i = .int .i64 k ∧ Below w.heap.size w wr) (fun i _ => n - (intOf i).toNat)
  case atStart => exact ⟨0, Nat.zero_le _, rfl, Below.refl _ _⟩
  case round =>
    obtain ⟨k, hk, rfl, hbl⟩ := hrel
    have hlt' : k < l.length := by omega
    have hlt : k < n := by omega
    obtain ⟨y, rfl⟩ := HR.out.some_ k hlt'
    obtain ⟨c0, c1⟩ := (HR.out.below hbl).cell y rfl k hlt'
    have kS := same_call l[k].id id l[k].co b wr ((hbl.cell (p := ⟨b, 0, none⟩) (World.block_lt_of_cell? w _ HB.out)).trans HB.out)
    obtain ⟨X, eX⟩ : ∃ X, l[k].id = X := ⟨_, rfl⟩
    obtain ⟨Y, eY⟩ : ∃ Y, l[k].co = Y := ⟨_, rfl⟩
    rw [eX] at c0 kS
    rw [eY] at c1 kS
    obtain ⟨Z, eZ⟩ : ∃ Z : Addr, Z = ⟨y, 0, none⟩ := ⟨_, rfl⟩
    obtain ⟨P, eP⟩ : ∃ P, Z.add (k * 2) = P := ⟨_, rfl⟩
    have e' : P = ⟨y, k * 2, none⟩ := by rw [← eP, eZ, add_zero_at]
    have c0' : wr.cell? P = some (.int .i64 X) := by rw [e']; exact c0
    have c1' : wr.cell? ⟨P.block, P.off + 1, none⟩ = some (.int .i64 Y) := by rw [e']; exact c1
    have hbl' := hidden_ hbl
    clear c0 c1 eY e' hbl
    rw [← eZ]
    clear eZ
    by_cases ek : k = K
    · subst ek
      have q : (X == id) = true := by rw [← eX, HE.out]; simp
      rw [q] at kS
      clear q eX
      go_wp2_with (go_at_call 32; refine kS.mono ?_; rintro e W1 ⟨rfl, h1⟩; have hq := hidden_ (below_then hbl'.out h1); clear h1 kS)
      go_ret
      exact ⟨rfl, hq.out⟩
    · have q : (X == id) = false := by rw [← eX]; simpa using HN.out k (by omega)
      rw [q] at kS
      clear q eX
      go_wp2_with (go_at_call 32; refine kS.mono ?_; rintro e W1 ⟨rfl, h1⟩; have hq := hidden_ (below_then hbl'.out h1); clear h1 kS)
      go_roundw
      case rel => exact ⟨k + 1, by omega, by go_num, hq.out⟩
      case measure => simp [intOf]; omega

theorem find_no {B : Nat} {w : World} {f g : Nat} {A : Nat → Sl} {s : Fr} (h : FrAt B w f g A s) (hn : s.n ≤ 4) (id : Int) (hid : hasB s.L id = false) : Calls Try.prog 24 #[.pointer (some ⟨f, 0, none⟩), .int .i64 id] w fun e w' => e = .returned (.tuple #[.pointer none, .int .i64 0]) ∧ Below w.heap.size w w' := by
  have hno : ∀ t, hasB (rowOf s.L t) id = false := fun t => by
    cases e : hasB (rowOf s.L t) id with
    | false => rfl
    | true =>
      obtain ⟨x, hx, he⟩ := has_mem.1 e
      have := has_mem.2 ⟨x, (mem_row.1 hx).1, he⟩
      rw [hid] at this
      cases this
  have hb0 := below_new (Below.refl w.heap.size w) (.cells #[.int .i64 id] 3)
  have cb : (w.alloc (.cells #[.int .i64 id] 3)).cell? ⟨w.heap.size, 0, none⟩ = some (.int .i64 id) := by simp
  have HF := hidden_ h
  have t0 := h.t0
  obtain ⟨n, eN⟩ : ∃ n, s.n = n := ⟨_, rfl⟩
  rw [eN] at t0 hn
  have HN := hidden_ eN
  obtain ⟨X, eX⟩ : ∃ X : Addr, X = ⟨g, 0, none⟩ := ⟨_, rfl⟩
  rw [← eX] at t0
  have HX := hidden_ eX
  have hlt := h.lt.1
  have t0' := (hb0.cell (p := ⟨f, 0, none⟩) hlt).trans t0
  have HB := hidden_ (And.intro hb0 (And.intro cb t0))
  clear hlt hb0 cb t0 eN eX h
  go_enter Try.func24, Try.ntmps24
  go_wp2
  clear t0'
  go_loopw [14] (fun i wr => ∃ k : Nat, k ≤ n ∧ i = .int .i64 k ∧ Below (w.alloc (.cells #[.int .i64 id] 3)).heap.size (w.alloc (.cells #[.int .i64 id] 3)) wr) (fun i _ => n - (intOf i).toNat)
  case atStart => exact ⟨0, Nat.zero_le _, rfl, Below.refl _ _⟩
  case round =>
    obtain ⟨k, hk, rfl, hbl⟩ := hrel
    by_cases hlt : k < n
    · have hlt' : (k : Int) < (n : Int) := by omega
      have hs := HB.out.1.trans (hbl.mono HB.out.1.size)
      have hF := HF.out.below hs
      have t0 := hF.t0
      rw [HN.out, ← HX.out] at t0
      have hkn : k < s.n := by rw [HN.out]; exact hlt
      have c2 := hF.c2 k hkn
      have kI := index_no (hF.reads hkn) (c := (A k).c) id w.heap.size ((hbl.cell (p := ⟨w.heap.size, 0, none⟩) (World.block_lt_of_cell? _ _ HB.out.2.1)).trans HB.out.2.1) (hno k)
      obtain ⟨P, eP⟩ : ∃ P, X.add (k * 3) = P := ⟨_, rfl⟩
      have e' : P = ⟨g, k * 3, none⟩ := by rw [← eP, HX.out, add_zero_at]
      have c2' : wr.cell? ⟨P.block, P.off + 2, none⟩ = some (.slice (A k).a (rowOf s.L k).length (A k).c) := by rw [e']; exact c2
      have HL := hidden_ hbl
      clear c2 e' hbl hs hF hkn
      go_wp2_with (go_at_call 31; refine kI.mono ?_; rintro e W1 ⟨rfl, h1⟩; have hq := hidden_ (below_then HL.out h1); clear h1 kI c2' t0)
      go_roundw
      case rel => exact ⟨k + 1, by omega, by go_num, hq.out⟩
      case measure => simp [intOf]; omega
    · have e : k = n := by omega
      subst e
      go_wp2
      go_ret2
      exact ⟨rfl, HB.out.1.trans (hbl.mono HB.out.1.size)⟩

theorem find_yes {B : Nat} {w : World} {f g : Nat} {A : Nat → Sl} {s : Fr} (h : FrAt B w f g A s) (hn : s.n ≤ 4) {x : It} (hx : x ∈ s.L) (hxt : x.t < s.n) (nd : (s.L.map It.id).Nodup) : ∃ K, ∃ hK : K < (rowOf s.L x.t).length, (rowOf s.L x.t)[K] = x ∧
    Calls Try.prog 24 #[.pointer (some ⟨f, 0, none⟩), .int .i64 x.id] w fun e w' => e = .returned (.tuple #[.pointer (some ⟨g, x.t * 3, none⟩), .int .i64 (K : Int)]) ∧ Below w.heap.size w w' := by
  have hno : ∀ t, t ≠ x.t → hasB (rowOf s.L t) x.id = false := fun t ht => by
    cases e : hasB (rowOf s.L t) x.id with
    | false => rfl
    | true =>
      obtain ⟨y, hy, he⟩ := has_mem.1 e
      have := inj_id nd (mem_row.1 hy).1 hx he
      rw [this] at hy
      exact absurd (mem_row.1 hy).2.symm ht
  have hyes : hasB (rowOf s.L x.t) x.id = true := has_mem.2 ⟨x, mem_row.2 ⟨hx, rfl⟩, rfl⟩
  obtain ⟨K, hK, -, hid, hne⟩ := pl_yes hyes
  have hKx : (rowOf s.L x.t)[K] = x := inj_id nd (mem_row.1 (List.getElem_mem hK)).1 hx hid
  refine ⟨K, hK, hKx, ?_⟩
  obtain ⟨id, eid⟩ : ∃ id, x.id = id := ⟨_, rfl⟩
  rw [eid] at hno hid hne ⊢
  obtain ⟨T, eT⟩ : ∃ T, x.t = T := ⟨_, rfl⟩

  rw [eT] at hno hxt ⊢
  have hK2 : K < (rowOf s.L T).length := by rw [← eT]; exact hK
  have hid2 : (rowOf s.L T)[K].id = id := by subst eT; exact hid
  have hne2 : ∀ j (hj : j < K), (rowOf s.L T)[j].id ≠ id := by subst eT; exact hne
  clear hid hne hKx hyes hx nd eid
  have hb0 := below_new (Below.refl w.heap.size w) (.cells #[.int .i64 id] 3)
  have cb : (w.alloc (.cells #[.int .i64 id] 3)).cell? ⟨w.heap.size, 0, none⟩ = some (.int .i64 id) := by simp
  have HF := hidden_ h
  have t0 := h.t0
  obtain ⟨n, eN⟩ : ∃ n, s.n = n := ⟨_, rfl⟩
  rw [eN] at t0 hn hxt
  have HN := hidden_ eN
  obtain ⟨X, eX⟩ : ∃ X : Addr, X = ⟨g, 0, none⟩ := ⟨_, rfl⟩
  rw [← eX] at t0
  have HX := hidden_ eX
  have hlt := h.lt.1
  have t0' := (hb0.cell (p := ⟨f, 0, none⟩) hlt).trans t0
  have HB := hidden_ (And.intro hb0 (And.intro cb t0))
  have HE := hidden_ eT
  clear hlt hb0 cb t0 eN eX h eT
  go_enter Try.func24, Try.ntmps24
  go_wp2
  clear t0'
  go_loopw [14] (fun i wr => ∃ k : Nat, k ≤ T ∧ i = .int .i64 k ∧ Below (w.alloc (.cells #[.int .i64 id] 3)).heap.size (w.alloc (.cells #[.int .i64 id] 3)) wr) (fun i _ => n - (intOf i).toNat)
  case atStart => exact ⟨0, Nat.zero_le _, rfl, Below.refl _ _⟩
  case round =>
    obtain ⟨k, hk, rfl, hbl⟩ := hrel
    have hlt : k < n := by omega
    have hlt' : (k : Int) < (n : Int) := by omega
    have hs := HB.out.1.trans (hbl.mono HB.out.1.size)
    have hF := HF.out.below hs
    have t0 := hF.t0
    rw [HN.out, ← HX.out] at t0
    have hkn : k < s.n := by rw [HN.out]; exact hlt
    have c2 := hF.c2 k hkn
    obtain ⟨P, eP⟩ : ∃ P, X.add (k * 3) = P := ⟨_, rfl⟩
    have e' : P = ⟨g, k * 3, none⟩ := by rw [← eP, HX.out, add_zero_at]
    have c2' : wr.cell? ⟨P.block, P.off + 2, none⟩ = some (.slice (A k).a (rowOf s.L k).length (A k).c) := by rw [e']; exact c2
    have HP := hidden_ e'
    have HL := hidden_ hbl
    have hcb := (hbl.cell (p := ⟨w.heap.size, 0, none⟩) (World.block_lt_of_cell? _ _ HB.out.2.1)).trans HB.out.2.1
    by_cases ek : k = T
    · subst ek
      have kI := index_yes (hF.reads hkn) (c := (A k).c) id w.heap.size hcb hK2 hid2 hne2
      clear c2 e' hbl hs hF hkn hK2 hid2 hne2 hno hcb
      go_wp2_with (go_at_call 31; refine kI.mono ?_; rintro e W1 ⟨rfl, h1⟩; have hq := hidden_ (below_then HL.out h1); clear h1 kI c2' t0)
      go_ret2
      exact ⟨by rw [HP.out]; rfl, HB.out.1.trans (hq.out.mono HB.out.1.size)⟩
    · have kI := index_no (hF.reads hkn) (c := (A k).c) id w.heap.size hcb (hno k ek)
      clear c2 e' hbl hs hF hkn hK2 hid2 hne2 hno hcb
      go_wp2_with (go_at_call 31; refine kI.mono ?_; rintro e W1 ⟨rfl, h1⟩; have hq := hidden_ (below_then HL.out h1); clear h1 kI c2' t0)
      go_roundw
      case rel => exact ⟨k + 1, by omega, by go_num, hq.out⟩
      case measure => simp [intOf]; omega

end Go.Proofs.Ytkjmlbllpnehlaa
