/- The program lays weights into pages: the contract of Place. -/
import Derived.Test.YtfggkkhehaafcaaRows
import Derived.Test.YtfggkkhehaafcaaPages
import Derived.Test.YtfggkkhehaafcaaView
import Derived.Test.YtfggkkhehaafcaaOwn
import Derived.Test.YtfggkkhehaafcaaReadsP
import Derived.Test.YtfggkkhehaafcaaReadsQ
import Derived.Test.YtfggkkhehaafcaaLeast
import Derived.Test.YtfggkkhehaafcaaLays
import Derived.Test.YtfggkkhehaafcaaTurns
import Derived.Test.YtfggkkhehaafcaaGoods
import Derived.Test.YtfggkkhehaafcaaPlain
import Derived.Test.YtfggkkhehaafcaaNeeds
import Derived.Test.YtfggkkhehaafcaaInvIn
import Derived.Test.YtfggkkhehaafcaaPutReg
import Derived.WalkKit
import Derived.ProofKit
import Derived.OpenShut
import Derived.Below
import Derived.WalkLawsBesides
import Derived.Deep.QuietTactic
import Derived.BigQuiet
import Derived.RangeFuncNested
import Derived.RangeFuncBox
import Derived.RangeFuncBound
import Derived.RangeFuncCalls
import Derived.RangeFuncLeaves
import Derived.Shelf.Abstract
import Derived.Shelf.RegionOpen
import Derived.OwnWalkIn
import Derived.TacticsInMore
import Derived.LoopNIn
import Derived.LoopIn
import Derived.Maps.AppendAt
import Derived.Deep.RegionHeld3
namespace Go.Proofs.Ytfggkkhehaafcaa
open Go.ChangeShapes Go.WideShapes Go.ChangeAt Go.RowKit
set_option linter.unusedVariables false

theorem boxed_off {B : Nat} {T : TypeId → Bool} {w w' : World} {k : Nat} {t : TypeId} {v : Value} (h : Boxed w k t v) (o : Off B T w w') (hT : T t = false) : Boxed w' k t v :=
  (o.row (t := t) (g := k) (m := 1) ⟨_, h, rfl⟩ hT).trans h
theorem boxed_below {B : Nat} {w w' : World} {k : Nat} {t : TypeId} {v : Value} (h : Boxed w k t v) (o : Below B w w') (hk : k < B) : Boxed w' k t v := (o.block k hk).trans h

/-- in a world that keeps all cells -/
theorem kept_block {w w' : World} {row : Option Nat} (hg : w.grownBy w' row) (hr : ∀ r, row = some r → ∃ o : Obj, w.heap[r]? = some o ∧ o.isCells = false) {k : Nat} {cs : Array Value} {t : TypeId} {f : Nat × Nat} (h : w.heap[k]? = some (.cells cs t f)) : w'.heap[k]? = w.heap[k]? :=
  grownBy_keeps_cells hg hr h rfl
theorem kept_row {w w' : World} {row : Option Nat} (hg : w.grownBy w' row) (hr : ∀ r, row = some r → ∃ o : Obj, w.heap[r]? = some o ∧ o.isCells = false) {t : TypeId} {g m : Nat} (h : Row t w g m) : w'.heap[g]? = w.heap[g]? := by
  obtain ⟨cs, e, _⟩ := h
  exact kept_block hg hr e
theorem PoolAt.kept {B : Nat} {w w' : World} {row : Option Nat} {b g : Nat} {s : Pl} (h : PoolAt B w b g s) (hg : w.grownBy w' row) (hr : ∀ r, row = some r → ∃ o : Obj, w.heap[r]? = some o ∧ o.isCells = false) : PoolAt B w' b g s :=
  h.of_blocks (kept_row hg hr h.top) (kept_row hg hr h.row)
theorem own_kept {B : Nat} {w w' : World} {row : Option Nat} {e : TypeId} {v : Value} {n : Nat} {cs : List Value} (h : w.ownsRow B e 1 v n cs) (hg : w.grownBy w' row) (hr : ∀ r, row = some r → ∃ o : Obj, w.heap[r]? = some o ∧ o.isCells = false) : w'.ownsRow B e 1 v n cs := by
  refine ⟨h.1, ?_⟩
  rcases h.2 with h | ⟨g, cap, cur, h1, h2, h3, h4⟩
  · exact .inl h
  · exact .inr ⟨g, cap, cur, h1, h2, (kept_block hg hr h3).trans h3, h4⟩
theorem RowI.kept {B : Nat} {w w' : World} {row : Option Nat} {a : Option Addr} {l c : Nat} {zs : List Int} (h : RowI B w a l c zs) (hg : w.grownBy w' row) (hr : ∀ r, row = some r → ∃ o : Obj, w.heap[r]? = some o ∧ o.isCells = false) : RowI B w' a l c zs := ⟨h.len, own_kept h.own hg hr, h.wf⟩
theorem boxed_kept {w w' : World} {row : Option Nat} {k : Nat} {t : TypeId} {v : Value} (h : Boxed w k t v) (hg : w.grownBy w' row) (hr : ∀ r, row = some r → ∃ o : Obj, w.heap[r]? = some o ∧ o.isCells = false) : Boxed w' k t v := (kept_block hg hr h).trans h
/-- what was written since is told also behind the turn of a block of the loop's own -/
theorem Off.kept {B M : Nat} {T : TypeId → Bool} {w w1 w2 : World} {row : Option Nat} (o : Off B T w w1) (hM : w.heap.size ≤ M) (hg : w1.grownBy w2 row) (hr : ∀ r, row = some r → M ≤ r) : Off B T w w2 := by
  refine ⟨hg.os.trans o.os, hg.tape.trans o.tape, hg.output.trans o.output, Nat.le_trans o.size hg.size, fun k hk hc => (hg.block k (Nat.lt_of_lt_of_le hk o.size) ?_).trans (o.block k hk hc)⟩
  intro e
  have := hr k e.symm
  omega
theorem Off.others {B : Nat} {T : TypeId → Bool} {w w' : World} (o : Off B T w w') : KeepsOthers w w' :=
  ⟨o.size, fun k ob hk hc => (o.block k (Array.getElem?_eq_some_iff.1 hk).1 (.inr fun t ht => by
    exfalso
    cases ob <;> simp_all [typeOf, Obj.isCells])).trans hk⟩
theorem Off.drew {B : Nat} {T : TypeId → Bool} {w w' : World} (o : Off B T w.drew w') : Off B T w w' := ⟨o.os, o.tape, o.output, o.size, o.block⟩

theorem RowI.lt {B : Nat} {w : World} {a : Option Addr} {l c : Nat} {zs : List Int} (h : RowI B w a l c zs) : ∀ x, a = some x → x.block < w.heap.size := by
  intro x hx
  rcases h.own.2 with ⟨h1, _⟩ | ⟨g, cap, cur, h1, h2, h3, h4⟩
  · simp only [Value.slice.injEq] at h1
    rw [hx] at h1
    cases h1.1
  · simp only [Value.slice.injEq] at h1
    rw [hx] at h1
    obtain rfl := Option.some.inj h1.1
    exact (Array.getElem?_eq_some_iff.1 h3).1
theorem RowI.type {B : Nat} {w : World} {a : Option Addr} {l c : Nat} {zs : List Int} (h : RowI B w a l c zs) : ∀ x, a = some x → ∃ m, Row 3 w x.block m := by
  intro x hx
  rcases h.own.2 with ⟨h1, _⟩ | ⟨g, cap, cur, h1, h2, h3, h4⟩
  · simp only [Value.slice.injEq] at h1
    rw [hx] at h1
    cases h1.1
  · simp only [Value.slice.injEq] at h1
    rw [hx] at h1
    obtain rfl := Option.some.inj h1.1
    exact ⟨_, cur, h3, rfl⟩
theorem boxed_set_other {w : World} {k k' : Nat} {t : TypeId} {v u : Value} (h : Boxed w k t v) (hk : k ≠ k') : Boxed (w.setCell ⟨k', 0, none⟩ u) k t v := (Below.heap_setCell w ⟨k', 0, none⟩ u k hk).trans h
theorem RowI.set_other {B k : Nat} {w : World} {a : Option Addr} {l c : Nat} {zs : List Int} (h : RowI B w a l c zs) (hk : ∀ x, a = some x → x.block ≠ k) (u : Value) : RowI B (w.setCell ⟨k, 0, none⟩ u) a l c zs := by
  refine ⟨h.len, ⟨h.own.1, ?_⟩, h.wf⟩
  rcases h.own.2 with h1 | ⟨g, cap, cur, h1, h2, h3, h4⟩
  · exact .inl h1
  · refine .inr ⟨g, cap, cur, h1, h2, (Below.heap_setCell w ⟨k, 0, none⟩ u g ?_).trans h3, h4⟩
    simp only [Value.slice.injEq] at h1
    exact hk _ h1.1

theorem wrap_small {z : Int} (h : (Lit.int .i8 z).wf = true) : IntKind.i64.wrap z = z := by
  have h' : -128 ≤ z ∧ z ≤ 127 := by simpa [Lit.wf, IntKind.min, IntKind.max, IntKind.signed, IntKind.bits] using h
  simp [IntKind.wrap, IntKind.signed, IntKind.bits]
  omega

theorem wrap_nat {n : Nat} (h : n ≤ 9223372036854775807) : IntKind.i64.wrap (n : Int) = n := by
  simp [IntKind.wrap, IntKind.signed, IntKind.bits]
  omega

/-- between two rounds of Place's loop -/
structure PlI (B : Nat) (w : World) (b g nb : Nat) (a : Option Addr) (L c : Nat) (a1 : Option Addr) (l1 p1 : Nat) (R : List Int) (S : Pl) (Wt : List Int) (pre : List (Int × Int)) (W : World) : Prop where
  nx : Boxed W nb 3 (.int .i64 (pre.length : Nat))
  b3 : Boxed W w.heap.size 24 (.pointer (some ⟨b, 0, none⟩))
  b5 : Boxed W (w.heap.size + 1) 37 (.slice a L c)
  bp : Boxed W (nb + 1) 58 (.slice a1 l1 p1)
  row : RowI w.heap.size W a1 l1 p1 R
  pool : PoolAt B W b g (putTo S Wt pre).2
  off : Off B TP w W

theorem PlI.own {B : Nat} {w : World} {b g nb : Nat} {a : Option Addr} {L c : Nat} {a1 : Option Addr} {l1 p1 : Nat} {R : List Int} {S : Pl} {Wt : List Int} {M : Nat} (hM : w.heap.size ≤ M) : OwnFrom M (PlI B w b g nb a L c a1 l1 p1 R S Wt) :=
  fun s A C row h hg hr => by
    have hr' : ∀ r, row = some r → ∃ o : Obj, A.heap[r]? = some o ∧ o.isCells = false := fun r e => (hr r e).2
    exact ⟨boxed_kept h.nx hg hr', boxed_kept h.b3 hg hr', boxed_kept h.b5 hg hr', boxed_kept h.bp hg hr', h.row.kept hg hr', h.pool.kept hg hr', h.off.kept hM hg (fun r e => (hr r e).1)⟩

theorem PlI.step {B : Nat} {w : World} {b g nb : Nat} {a : Option Addr} {L c : Nat} {a1 : Option Addr} {l1 p1 : Nat} {R : List Int} {S : Pl} {Wt : List Int} {pre : List (Int × Int)} {W W3 : World} {M : Nat} {x : Int × Int}
    (h : PlI B w b g nb a L c a1 l1 p1 R S Wt pre W) (hnb : w.heap.size + 2 ≤ nb) (hx : ∀ x, a1 = some x → x.block < nb) (hp : PoolAt B W3 b g (putS (putTo S Wt pre).2 x.1 x.2 (Wt.getD pre.length 0))) (ho : Off B TP W W3) :
    KeepsFrom M W (W3.setCell ⟨nb, 0, none⟩ (.int .i64 ((pre.length : Int) + 1))) ∧ KpP (nb + 1) a1 W (W3.setCell ⟨nb, 0, none⟩ (.int .i64 ((pre.length : Int) + 1))) ∧
      PlI B w b g nb a L c a1 l1 p1 R S Wt (pre ++ [x]) (W3.setCell ⟨nb, 0, none⟩ (.int .i64 ((pre.length : Int) + 1))) := by
  have n3 := boxed_off h.nx ho rfl
  have hn : ∀ k m t, Row t W3 k m → t ≠ 3 → k ≠ nb := fun k m t r ht => r.ne (t' := 3) (m' := 1) ⟨_, n3, rfl⟩ ht
  have eb := Below.heap_setCell W3 ⟨nb, 0, none⟩ (.int .i64 ((pre.length : Int) + 1))
  have r3 := h.row.off ho rfl
  refine ⟨(ho.others.trans (KeepsOthers.setCell _ _ _)).from _, ⟨?_, fun y hy => ?_⟩, ⟨?_, boxed_set_other (boxed_off h.b3 ho rfl) (by omega), boxed_set_other (boxed_off h.b5 ho rfl) (by omega), boxed_set_other (boxed_off h.bp ho rfl) (by omega), r3.set_other (fun y hy => by have := hx y hy; omega) _, ?_, ?_⟩⟩
  · exact (eb (nb + 1) (by simp)).trans (ho.row (t := 58) (m := 1) ⟨_, h.bp, rfl⟩ rfl)
  · obtain ⟨m, hm⟩ := h.row.type y hy
    exact (eb y.block (by have := hx y hy; show y.block ≠ nb; omega)).trans (ho.row hm rfl)
  · have := n3.set (.int .i64 ((pre.length : Int) + 1))
    rw [List.length_append, List.length_cons, List.length_nil]
    exact this
  · rw [putTo_snoc]
    exact hp.of_blocks (eb b (hn _ _ _ hp.top (by decide))) (eb g (hn _ _ _ hp.row (by decide)))
  · have o1 := h.off.trans ho
    refine ⟨o1.os, o1.tape, o1.output, Nat.le_trans o1.size (by simp [World.setCell]), fun k hk hc => (eb k (by show k ≠ nb; omega)).trans (o1.block k hk hc)⟩

section
attribute [local go_sem] Oper.semAt_some

set_option maxRecDepth 100000 in
set_option maxHeartbeats 4000000 in
theorem place_yes {B m : Nat} {w : World} {b g : Nat} {s : Pl} (h : PoolAt B w b g s) (hG : Good m s) (hm : 1 ≤ m) (t : ByteArray) (a : Option Addr) (L c : Nat) (W : List Int) (hW : ∀ w', Off B TP w w' → Reads .i8 w' a L W) (h0 : placeE s t W = 0) :
    Calls Try.prog 76 #[.pointer (some ⟨b, 0, none⟩), .string t, .slice a L c] w fun e w' =>
      ∃ a' l' c', e = .returned (.tuple #[.slice a' l' c', .int .i64 0]) ∧ RowI w.heap.size w' a' l' c' (placeR s t W) ∧ PoolAt B w' b g (placeS s t W) ∧ Off B TP w w' := by
  have hW0 := hW w (Off.refl _ _ _)
  have hlen : W.length = L := hW0.len
  have hmax := hW0.max
  have hRl := placeR_len hG.a0 h0
  unfold placeS
  rw [if_pos h0]
  rw [hlen] at hRl ⊢
  have k8 := need_call (L : Int) (by omega) (by omega)
  obtain ⟨K, eK⟩ : ∃ K, needZ L = K := ⟨_, rfl⟩
  have hb1 := below_new (below_new (Below.refl _ w) (.cells #[.pointer (some ⟨b, 0, none⟩)] 24)) (.cells #[.slice a L c] 37)
  have bx3 : Boxed ((w.alloc (.cells #[.pointer (some ⟨b, 0, none⟩)] 24)).alloc (.cells #[.slice a L c] 37)) w.heap.size 24 (.pointer (some ⟨b, 0, none⟩)) := (Boxed.new _ _ _).alloc _
  have bx5 : Boxed ((w.alloc (.cells #[.pointer (some ⟨b, 0, none⟩)] 24)).alloc (.cells #[.slice a L c] 37)) (w.heap.size + 1) 37 (.slice a L c) := by
    have := Boxed.new (w.alloc (.cells #[.pointer (some ⟨b, 0, none⟩)] 24)) 37 (.slice a L c)
    rwa [World.size_alloc] at this
  obtain ⟨A, eA⟩ : ∃ A, (w.alloc (.cells #[.pointer (some ⟨b, 0, none⟩)] 24)).alloc (.cells #[.slice a L c] 37) = A := ⟨_, rfl⟩
  have k25 := take_call ((h.below (by rw [← eA]; exact hb1) : PoolAt B A b g s).drewN 1) hG t K
  rw [eK] at k8
  have hE : takeE s t K = 0 := by rw [← eK, ← hlen]; exact h0
  rw [hE] at k25
  have hR : placeR s t W = takeR s t K := by unfold placeR; rw [hlen, eK]
  rw [hR] at hRl ⊢
  rw [eK]
  have c3 : A.drew.cell? ⟨w.heap.size, 0, none⟩ = some (.pointer (some ⟨b, 0, none⟩)) := by have := bx3.cell; rw [eA] at this; exact this
  have c5 : A.drew.cell? ⟨w.heap.size + 1, 0, none⟩ = some (.slice a L c) := by have := bx5.cell; rw [eA] at this; exact this
  have hA : Hid (Below w.heap.size w A ∧ Boxed A w.heap.size 24 (.pointer (some ⟨b, 0, none⟩)) ∧ Boxed A (w.heap.size + 1) 37 (.slice a L c)) := by rw [← eA]; exact ⟨hb1, bx3, bx5⟩
  obtain ⟨R, eR⟩ : ∃ R, takeR s t K = R := ⟨_, rfl⟩
  obtain ⟨S, eS⟩ : ∃ S, takeS s t K = S := ⟨_, rfl⟩
  have hGt := hG.takeS hm t K
  rw [eS] at hGt
  rw [eR, eS] at k25 ⊢
  rw [eR] at hRl
  have HW := hidden_ (fun w' (o : Off B TP w w') => (hW w' o).cell)
  have HX := hidden_ hW0.some_
  have HV := hidden_ (fun i => wrap_small (hW0.wf i))
  have HG := hidden_ hGt
  clear hb1 bx3 bx5 hR eR eS eK hE h0 h hG hW hW0 hGt hm
  refine (callsIn_wide (n := 5)).1 ?_
  refine callsIn_of_wp_marks Try.func76 rfl trivial ?_ rfl
  simp only [Try.ntmps76, List.size_toArray, List.length_cons, List.length_nil, Nat.reduceAdd, Nat.reduceSub, Array.replicate_succ, Array.replicate_zero, List.push_toArray, List.append_toArray, List.nil_append, List.cons_append]
  refine wpIn_wide.2 ?_
  go_wp2
  go_region_held3 (fun W => W.cell? ⟨w.heap.size, 0, none⟩ = some (.pointer (some ⟨b, 0, none⟩)) ∧ W.cell? ⟨w.heap.size + 1, 0, none⟩ = some (.slice a L c)) (first | assumption | (exact ⟨c3, c5⟩) | exact d35) (first
    | (go_at_call 71; refine (k8 _).mono ?_; rintro e w' ⟨rfl, h1⟩; obtain rfl := h1.symm)
    | (go_at_call 34; refine k25.mono ?_; rintro e W1 ⟨a1, l1, p1, rfl, hr1, hp1, ho1⟩; have HT := hidden_ (And.intro hr1 (And.intro hp1 ho1)); have d35 := And.intro (boxed_off hA.out.2.1 (Off.drew ho1) rfl).cell (boxed_off hA.out.2.2 (Off.drew ho1) rfl).cell; clear hr1 hp1 ho1))
  have hz1 : W1.heap.size ≥ w.heap.size + 2 := by
    have := HT.out.2.2.size
    have : A.heap.size ≤ W1.heap.size := this
    rw [← eA] at this
    simp at this
    omega
  have e5 : (W1.alloc (.cells #[.int .i64 0] 3)).cell? ⟨w.heap.size + 1, 0, none⟩ = some (.slice a L c) := ((boxed_off hA.out.2.2 (Off.drew HT.out.2.2) rfl).alloc _).cell
  go_wp2_with (first | (go_at_call 72; refine (places_call _ _ _ _ _).mono ?_; rintro e W2 ⟨rfl, h2⟩; obtain rfl := h2.symm))
  obtain ⟨hr1, hp1, ho1⟩ := HT.out
  have ho1' : Off B TP w W1 := (Off.of_below hA.out.1).trans (Off.drew ho1)
  have hr1' : RowI w.heap.size W1 a1 l1 p1 R := hr1.mono (show w.heap.size ≤ A.heap.size from hA.out.1.size)
  have n1 := Boxed.new W1 3 (.int .i64 0)
  have n2 := Boxed.new (W1.alloc (.cells #[.int .i64 0] 3)) 58 (.slice a1 l1 p1)
  have n3 := Boxed.new ((W1.alloc (.cells #[.int .i64 0] 3)).alloc (.cells #[.slice a1 l1 p1] 58)) 3 (.int .i64 (L : Int))
  have f1 : Below W1.heap.size W1 (((W1.alloc (.cells #[.int .i64 0] 3)).alloc (.cells #[.slice a1 l1 p1] 58)).alloc (.cells #[.int .i64 (L : Int)] 3)) := below_new (below_new (below_new (Below.refl _ _) _) _) _
  have n1' := (n1.alloc (.cells #[.slice a1 l1 p1] 58)).alloc (.cells #[.int .i64 (L : Int)] 3)
  have n2' := n2.alloc (.cells #[.int .i64 (L : Int)] 3)
  have hs0 : (((W1.alloc (.cells #[.int .i64 0] 3)).alloc (.cells #[.slice a1 l1 p1] 58)).alloc (.cells #[.int .i64 (L : Int)] 3)).heap.size = W1.heap.size + 3 := by simp
  rw [World.size_alloc] at n2'
  rw [World.size_alloc, World.size_alloc] at n3
  have hlt1 := hr1'.lt
  have b31 := boxed_off hA.out.2.1 (Off.drew ho1) rfl
  have b51 := boxed_off hA.out.2.2 (Off.drew ho1) rfl
  obtain ⟨W0, eW0⟩ : ∃ W0, (((W1.alloc (.cells #[.int .i64 0] 3)).alloc (.cells #[.slice a1 l1 p1] 58)).alloc (.cells #[.int .i64 (L : Int)] 3)) = W0 := ⟨_, rfl⟩
  rw [eW0] at f1 n1' n2' n3 hs0 ⊢
  have hP0 : PlI B w b g W1.heap.size a L c a1 l1 p1 R S W [] W0 := ⟨n1', boxed_below b31 f1 b31.lt, boxed_below b51 f1 b51.lt, n2', hr1'.below f1, hp1.below f1, ho1'.trans (Off.of_below f1)⟩
  obtain ⟨nb, enb⟩ : ∃ nb, W1.heap.size = nb := ⟨_, rfl⟩
  rw [enb] at hP0 n3 hs0 hlt1 hz1 n2' ⊢
  have hGS := HG.out
  clear n1 n2 f1 n1' hr1 hp1 ho1 ho1' hr1' b31 b51 e5 c3 c5 d35 k25 k8 HT hA eW0 enb
  refine (wpIn_wide (n := 5)).1 ?_
  refine wpIn_rangeFunc_ownG rfl (by omega) (gf := 81) (lb := #[.pointer (some ⟨nb + 1 + 1, 0, none⟩), .pointer (some ⟨nb + 1, 0, none⟩)]) rfl trivial (enters_of Try.func81 (by kernel_rfl) rfl)
    (places_stops Fence.wide _ trivial rfl (by omega) (nb + 1 + 1) (nb + 1) a1 l1 p1 L R (by rw [← hRl]; exact Nat.le_of_eq hP0.row.len) hmax W0 n3.cell n2'.cell hP0.row.reads) KpP.trans (KpP.book (by omega) (fun x hx => by have := hlt1 x hx; omega)) (Below.refl _ _) (fun _ => rfl)
    (PlI B w b g nb a L c a1 l1 p1 R S W) (fun _ _ _ => False) (PlI.own (by omega)) (fun _ _ _ _ _ hs _ _ => hs) hP0
    (fun x => { tmps := #[.pointer (some ⟨b, 0, none⟩), .string t, .slice a L c, .pointer (some ⟨w.heap.size, 0, none⟩), undef, .pointer (some ⟨w.heap.size + 1, 0, none⟩), .slice none 0 0, .int .i64 0,
          .slice a1 l1 p1, .int .i64 0, .pointer (some ⟨nb, 0, none⟩), .int .i64 x.1, .int .i64 x.2, .tuple #[.slice a1 l1 p1, .int .i64 0],
          .pointer (some ⟨b, 0, none⟩), .string t, .slice a L c, .int .i64 (L : Int), .int .i64 K, .tuple #[.slice a1 l1 p1, .int .i64 0], .slice a1 l1 p1,
          .int .i64 0, .int .i64 0, .bool false, undef, .slice a1 l1 p1, .slice a L c, .int .i64 (L : Int),
          .func (.func 81) #[] #[.pointer (some ⟨nb + 1 + 1, 0, none⟩), .pointer (some ⟨nb + 1, 0, none⟩)],
          .int .i64 x.1, .int .i64 x.2, undef, undef, undef, undef, undef, undef, undef, undef, undef, undef, undef, undef], defers := [] }) ?assign ?body ?done ?stop
  case assign =>
    intro l x W K hK
    gi_wp2
    exact hK
  case body =>
    rintro l pre x W9 hI hlt
    obtain ⟨y, rfl⟩ := HX.out (by omega)
    have kP := put_call (hI.pool.drewN 1) (hGS.putTo W pre) x.1 x.2 (W.getD pre.length 0)
    have v := HW.out W9 hI.off y rfl pre.length hlt
    have d3 : W9.drew.cell? ⟨w.heap.size, 0, none⟩ = some (.pointer (some ⟨b, 0, none⟩)) := hI.b3.cell
    have d5 : W9.drew.cell? ⟨w.heap.size + 1, 0, none⟩ = some (.slice (some y) L c) := hI.b5.cell
    have dn : W9.drew.cell? ⟨nb, 0, none⟩ = some (.int .i64 (pre.length : Nat)) := hI.nx.cell
    have hv := HV.out pre.length
    obtain ⟨V, eV⟩ : ∃ V, W.getD pre.length 0 = V := ⟨_, rfl⟩
    rw [eV] at kP v hv
    have dv : W9.drew.cell? (y.add pre.length) = some (.int .i8 V) := v
    have hv' : IntKind.i64.wrap V = V := hv
    have HI := hidden_ hI
    obtain ⟨N, eN⟩ : ∃ N, pre.length = N := ⟨_, rfl⟩
    rw [eN] at dn dv hlt
    have hlt' : (N : Int) < (L : Int) := by omega
    obtain ⟨S1, eS1⟩ : ∃ S1, putS (putTo S W pre).2 x.1 x.2 V = S1 := ⟨_, rfl⟩
    rw [eS1] at kP
    obtain ⟨E, eE⟩ : ∃ E, getE (putTo S W pre).2 x.1 x.2 = E := ⟨_, rfl⟩
    rw [eE] at kP
    have hmx : Try.prog.follows .mixedOrders = true := by kernel_rfl
    clear v hI eE HW HX HG hGS hP0 n3 n2' HV hRl
    have key : ∀ W3 : World, PoolAt B W3 b g S1 → Off B TP W9.drew W3 → Boxed W3 nb 3 (.int .i64 (N : Int)) ∧ (KeepsFrom W0.heap.size W9 (W3.setCell ⟨nb, 0, none⟩ (.int .i64 ((N : Int) + 1))) ∧ KpP (nb + 1) a1 W9 (W3.setCell ⟨nb, 0, none⟩ (.int .i64 ((N : Int) + 1))) ∧
        PlI B w b g nb (some y) L c a1 l1 p1 R S W (pre ++ [x]) (W3.setCell ⟨nb, 0, none⟩ (.int .i64 ((N : Int) + 1)))) := fun W3 q1 q2 => by
      have q3 := boxed_off HI.out.nx (Off.drew q2) rfl
      have q4 := HI.out.step (x := x) (W3 := W3) (M := W0.heap.size) hz1 hlt1 (by rw [eV, eS1]; exact q1) (Off.drew q2)
      rw [eN] at q3 q4
      exact ⟨q3, q4⟩
    have HK := hidden_ key
    clear key eS1 eV eN HI hlt1
    gi_wp2
    refine put_region l b w.heap.size (w.heap.size + 1) nb x.1 x.2 y L c N V E (fun W3 => PoolAt B W3 b g S1 ∧ Off B TP W9.drew W3) (by kernel_rfl) rfl ⟨_, rfl, rfl, rfl, rfl, by kernel_rfl⟩ ⟨_, rfl, rfl, rfl, rfl, by kernel_rfl⟩ ⟨_, rfl, rfl, rfl, rfl, by kernel_rfl⟩ ⟨_, rfl, rfl, rfl, rfl, by kernel_rfl⟩ ⟨_, rfl, rfl, rfl, rfl, by kernel_rfl⟩ ⟨_, rfl, rfl, rfl, rfl, by kernel_rfl⟩ ⟨_, rfl, rfl, rfl, rfl, by kernel_rfl⟩ ⟨_, rfl, rfl, rfl, rfl, by kernel_rfl⟩ ⟨_, rfl, rfl, rfl, rfl, by kernel_rfl⟩ rfl rfl rfl rfl rfl d3 d5 dn dv hlt hv' kP (Nat.le_of_ble_eq_true rfl) ?_
    intro a W3 hs hd hkp hval hpost
    obtain ⟨f3, HF⟩ := HK.out W3 hpost.1 hpost.2
    have f3' := f3.cell
    have f4 := f3.frozen
    replace HF := hidden_ HF
    have ep := frame_puts [31, 32, 33, 34, 35, 36, 37, 38, 39] hs hd (fun s h => hkp s (fun i hi e => h (by
      rcases (show i = 0 ∨ i = 1 ∨ i = 2 ∨ i = 3 ∨ i = 4 ∨ i = 5 ∨ i = 6 ∨ i = 7 ∨ i = 8 by omega) with rfl | rfl | rfl | rfl | rfl | rfl | rfl | rfl | rfl <;> (simp only [prD, Option.some.injEq] at e; subst e; simp))))
    simp only [List.foldl] at ep
    clear hs hd hkp hval hpost f3 HK kP d3 d5 dn dv
    generalize a.tmps.getD 31 undef = g31 at ep
    generalize a.tmps.getD 32 undef = g32 at ep
    generalize a.tmps.getD 33 undef = g33 at ep
    generalize a.tmps.getD 34 undef = g34 at ep
    generalize a.tmps.getD 35 undef = g35 at ep
    generalize a.tmps.getD 36 undef = g36 at ep
    generalize a.tmps.getD 37 undef = g37 at ep
    generalize a.tmps.getD 38 undef = g38 at ep
    generalize a.tmps.getD 39 undef = g39 at ep
    simp only [Act.put, List.setIfInBounds_toArray, List.set_cons_succ, List.set_cons_zero] at ep
    subst ep
    gi_wp2
    exact HF.out
  case done =>
    rintro D ys W9 hD rfl hI hK
    go_wp2
    refine ⟨by simp, .inl ⟨_, _, rfl, run_takeDeferred hK, ?_⟩⟩
    have hg := grownBy_putObj' W9 D (.deferred none)
    have hg' : ∀ r, some D = some r → ∃ o : Obj, W9.heap[r]? = some o ∧ o.isCells = false := fun r e => by cases e; exact ⟨_, hK, rfl⟩
    exact ⟨_, results_tmp2 rfl _ _ _, a1, l1, p1, rfl, hI.row.kept hg hg', hI.pool.kept hg hg', hI.off.kept (Nat.le_refl _) hg (fun r e => by cases e; omega)⟩
  case stop =>
    rintro D c pre W9 _ _ h _
    exact h.elim
end

end Go.Proofs.Ytfggkkhehaafcaa
