/- The document's New of right weights. -/
import Derived.Test.YtkjmlbllpnehlaaRows
import Derived.Test.YtkjmlbllpnehlaaView
import Derived.Test.YtkjmlbllpnehlaaOwn
import Derived.Test.YtkjmlbllpnehlaaBase
import Derived.Test.YtkjmlbllpnehlaaGxRt
import Derived.Test.YtkjmlbllpnehlaaFkZ
import Derived.Test.YtkjmlbllpnehlaaFkBy
import Derived.Test.YtkjmlbllpnehlaaFkAt
import Derived.Test.YtkjmlbllpnehlaaFkRd
import Derived.Test.YtkjmlbllpnehlaaRfAt
import Derived.Test.YtkjmlbllpnehlaaFkNew
import Derived.Test.YtkjmlbllpnehlaaRfNew
import Derived.WalkKit
import Derived.ProofKit
import Derived.OpenShut
import Derived.Below
import Derived.WalkLawsBesides
import Derived.Deep.QuietTactic
import Derived.BigQuiet
import Derived.Deep.Cut
import Derived.Laws.MakeOwn
import Derived.OwnWalk
import Derived.ArgAppend
namespace Go.Proofs.Ytkjmlbllpnehlaa
set_option maxRecDepth 20000
open Go.ChangeShapes Go.WideShapes Go.ChangeAt Go.RowKit
set_option linter.unusedVariables false
set_option linter.unusedSimpArgs false

theorem wp_append {P : Program} {o : Oper} {b : Act} {u : World} {K : Act → World → Prop} {Q : Exit → Act → World → Prop} (s x : Operand) (t : TypeId) (hop : o.op = Op.call { callee := Callee.builtin Builtin.append, args := #[s, x], argTypes := #[t, t] }) (V1 V2 : Value) (hs : b.eval s = V1) (hx : b.eval x = V2) (v' : Value) (u' : World) (hrun : (Builtin.append_ #[t, t] o.type #[V1, V2]).run P u = .ok v' u') (hK : K (b.put o.dst v') u') : o.wp P b u K Q := by
  unfold Oper.wp
  simp [execOp, hop, resolve, invoke, builtin, hs, hx, hrun, Result.andThen]
  exact hK
theorem wp_make {P : Program} {o : Oper} {b : Act} {u : World} {K : Act → World → Prop} {Q : Exit → Act → World → Prop} (l c : Operand) (t : TypeId) (hop : o.op = Op.makeSlice t l c) (V1 V2 : Value) (hs : b.eval l = V1) (hx : b.eval c = V2) (v' : Value) (u' : World) (hrun : (Instr.makeSlice t V1 V2).run P u = .ok v' u') (hK : K (b.put o.dst v') u') : o.wp P b u K Q := by
  unfold Oper.wp
  simp [execOp, hop, hs, hx, hrun, Result.andThen]
  exact hK
def eNew (B n : Nat) (zs : List Int) : Ent := Ent.of (NewR B n zs) fun _ _ _ hb h => h.below hb
def eAgg (B n : Nat) (zs : List Int) : Ent := Ent.of (fun v u => ∃ x y, v = .agg #[x, y, .slice none 0 0, .int .i64 0] ∧ NewR B n zs x u ∧ NewR B n [] y u) fun _ _ _ hb ⟨x, y, e, h1, h2⟩ => ⟨x, y, e, h1.below hb, h2.below hb⟩
def eBox (B n : Nat) (zs : List Int) : Ent := Ent.of (fun v u => ∃ f x y, v = .pointer (some ⟨f, 0, none⟩) ∧ B ≤ f ∧ u.heap[f]? = some (.cells #[x, y, .slice none 0 0, .int .i64 0] 57 (0, 0)) ∧ NewR B n zs x u ∧ NewR B n [] y u) fun _ u u' hb ⟨f, x, y, e, h0, h1, h2, h3⟩ => ⟨f, x, y, e, h0, (hb.block f (Array.getElem?_eq_some_iff.1 h1).1).trans h1, h2.below hb, h3.below hb⟩
def eLit : Ent := Ent.of (fun v _ => ∃ q, v = .slice (some q) 0 0) fun _ _ _ _ h => h

theorem rnew_at {B n : Nat} {zs : List Int} {f : Nat} {x y : Value} {u : World} (hl : zs.length = n) (h1 : 1 ≤ n) (hz : 1 ≤ zs.getD 0 0) (hf : B ≤ f) (hb : u.heap[f]? = some (.cells #[x, y, .slice none 0 0, .int .i64 0] 57 (0, 0))) (hx : NewR B n zs x u) (hy : NewR B n [] y u) : ∃ p, RfAt B u f p (newF zs) := by
  obtain ⟨gW, cW, rfl, a1, a2, a3⟩ := hx
  obtain ⟨gC, cC, rfl, b1, b2, b3⟩ := hy
  have c : ∀ j v, (#[Value.slice (some ⟨gW, 0, none⟩) n cW, Value.slice (some ⟨gC, 0, none⟩) n cC, Value.slice none 0 0, Value.int .i64 0] : Array Value)[j]? = some v → u.cell? ⟨f, j, none⟩ = some v := fun j v hv => by
    unfold World.cell?
    rw [hb]
    simpa using hv
  have e : (newF zs).n = n := hl
  refine ⟨⟨gW, cW, gC, cC, ⟨none, 0⟩⟩, hf, b1, ⟨_, hb, rfl⟩, by rw [e]; exact c 0 _ rfl, by rw [e]; exact c 1 _ rfl, c 2 _ rfl, c 3 _ rfl, a2, b2, fun i hi => a3 i (by rw [e] at hi; exact hi), fun i hi => ?_, World.ownsRow_nil _ _ _ _, fun hg => ?_⟩
  · have := b3 i (by rw [e] at hi; exact hi)
    rw [this]
    show some (Value.int .i64 (([] : List Int).getD i 0)) = some (Value.int .i64 0)
    rfl
  · have h2 := a3 0 h1
    have h3 := b3 0 h1
    dsimp only at hg
    rw [hg, h3] at h2
    obtain ⟨z, ez⟩ : ∃ z, zs.getD 0 0 = z := ⟨_, rfl⟩
    rw [ez] at h2 hz
    simp at h2
    omega
set_option maxHeartbeats 4000000 in
theorem rnew_yes {w : World} {a : Option Addr} {n c : Nat} {zs : List Int} (h : Reads .i64 w a n zs) (hok : okW zs = true) :
    Calls Try.prog 8 #[.slice a n c] w fun e w' => ∃ f, e = .returned (.tuple #[.pointer (some ⟨f, 0, none⟩), .int .i64 0]) ∧ (∃ p, RfAt w.heap.size w' f p (newF zs)) ∧ Below w.heap.size w w' := by
  have hmax := h.max
  have HR := hidden_ h
  have hl := hidden_ h.len
  simp only [okW, Bool.and_eq_true, decide_eq_true_eq, Bool.not_eq_true', List.any_eq_false] at hok
  obtain ⟨⟨h1, h4⟩, h3⟩ := hok
  rw [h.len] at h1 h4
  have hz : ∀ j, j < n → 1 ≤ zs.getD j 0 ∧ zs.getD j 0 ≤ 16 := fun j hj => by
    have hj' : j < zs.length := by rw [h.len]; exact hj
    have := h3 zs[j] (List.getElem_mem hj')
    simp only [noW, Bool.or_eq_true, decide_eq_true_eq, not_or] at this
    rw [show zs.getD j 0 = zs[j] by simp [List.getD, hj']]
    omega
  have HZ := hidden_ hz
  have h0' : (1 : Int) ≤ (n : Int) := by omega
  have h4' : (n : Int) ≤ 4 := by omega
  obtain ⟨x, rfl⟩ := h.some_ (by omega)
  clear h h3 hz
  go_enter Try.func8, Try.ntmps8
  go_wp2
  go_loopw [4, 5] (fun q i wr => ∃ k : Nat, k ≤ n ∧ i = .int .i64 k ∧ q = .bool true ∧ wr = w) (fun _ i _ => n - (intOf i).toNat)
  case atStart => exact ⟨0, Nat.zero_le _, rfl, rfl, rfl⟩
  case round =>
    obtain ⟨k, hk, rfl, rfl, hw⟩ := hrel
    subst hw
    by_cases hlt : k < n
    · have hlt' : (k : Int) < (n : Int) := by omega
      have cy := HR.out.cell x rfl k hlt
      obtain ⟨z1, z2⟩ := HZ.out k hlt
      obtain ⟨t, et⟩ : ∃ t, zs.getD k 0 = t := ⟨_, rfl⟩
      rw [et] at cy z1 z2
      clear et
      go_wp2
      go_roundw
      case rel => exact ⟨k + 1, by omega, by go_num, rfl, trivial⟩
      case measure => simp [intOf]; omega
    · have e : k = n := by omega
      have hkn : ¬ (k : Int) < (n : Int) := by omega
      have hn1 : 1 ≤ n := h1
      clear e hk hlt
      go_upto_region 8 with fail
      refine wp_region_tab (by kernel_rfl) (by kernel_rfl) rfl (fun u => Below wr.heap.size wr u) [eLit, .eq (.slice (some x) n c), eNew wr.heap.size n zs, .eq (.slice (some x) n c), .eq (.int .i64 (n : Int)), eNew wr.heap.size n [], eAgg wr.heap.size n zs, eBox wr.heap.size n zs, eBox wr.heap.size n zs, .eq (.int .i64 0)] (below_drew (Below.refl _ _) ⟨1, rfl⟩) ⟨?l0, ?_, ?c2, ?_, ?_, ?m5, ?g6, ?b7, ?a8, ?_, trivial⟩ ?fin
      case l0 =>
        rintro b u - hS - K hK
        go_simp
        exact hK _ _ (below_new (Below.refl _ _) _) (below_new hS _) ⟨_, rfl⟩
      case c2 =>
        rintro b u - hS ⟨e1, e2, -⟩ K hK
        obtain ⟨q, e1⟩ := e1
        replace e2 := show b.tmps.getD 38 undef = _ from e2
        obtain ⟨v, u', hr, hn, hb⟩ := copy_new q (HR.out.below hS) (c := c) hn1 (by omega) 22
        exact wp_append (.tmp 37) (.tmp 38) 22 rfl _ _ e1 e2 _ _ hr (hK _ _ hb (below_then hS hb) (by
          obtain ⟨g, c', d1, d2, d3⟩ := hn
          exact ⟨g, c', d1, Nat.le_trans hS.size d2, d3⟩))
      case m5 =>
        rintro b u - hS ⟨e1, -⟩ K hK
        replace e1 := show b.tmps.getD 41 undef = _ from e1
        obtain ⟨v, u', hr, hn, hb⟩ := make_new n (by omega) u
        exact wp_make (.tmp 41) (.tmp 41) 22 rfl _ _ e1 e1 _ _ hr (hK _ _ hb (below_then hS hb) (by
          obtain ⟨g, c', d1, d2, d3⟩ := hn
          exact ⟨g, c', d1, Nat.le_trans hS.size d2, d3⟩))
      case g6 =>
        rintro b u - hS ⟨e1, e2, -⟩ K hK
        obtain ⟨v1, ev1⟩ : ∃ v1, b.tmps.getD 39 undef = v1 := ⟨_, rfl⟩
        obtain ⟨v2, ev2⟩ : ∃ v2, b.tmps.getD 42 undef = v2 := ⟨_, rfl⟩
        have q1 : NewR wr.heap.size n zs v1 u := by rw [← ev1]; exact e1
        have q2 : NewR wr.heap.size n [] v2 u := by rw [← ev2]; exact e2
        have Q1 := hidden_ q1
        have Q2 := hidden_ q2
        obtain ⟨g1, c1, rfl, -⟩ := q1
        obtain ⟨g2, c2, rfl, -⟩ := q2
        rw [Array.getD_eq_getD_getElem?] at ev1 ev2
        clear e1 e2
        go_simp
        exact hK _ _ (Below.refl _ _) hS ⟨_, _, rfl, Q1.out, Q2.out⟩
      case b7 =>
        rintro b u - hS ⟨e1, -⟩ K hK
        obtain ⟨x1, y1, ev, q1, q2⟩ := e1
        replace ev := show b.tmps.getD 43 undef = _ from ev
        have Q1 := hidden_ q1
        have Q2 := hidden_ q2
        obtain ⟨g1, c1, rfl, -⟩ := q1
        obtain ⟨g2, c2, rfl, -⟩ := q2
        go_simp
        exact hK _ _ (below_new (Below.refl _ _) _) (below_new hS _) ⟨_, _, _, rfl, hS.size, heap_alloc_new _ _, Q1.out.below (below_new (Below.refl _ _) _), Q2.out.below (below_new (Below.refl _ _) _)⟩
      case a8 =>
        rintro b u - hS ⟨e1, -⟩ K hK
        obtain ⟨f1, x1, y1, ev, h5⟩ := e1
        replace ev := show b.tmps.getD 44 undef = _ from ev
        go_simp
        exact hK _ _ (Below.refl _ _) hS ⟨_, _, _, rfl, h5⟩
      case fin =>
        rintro g u hS ⟨-, -, -, -, -, -, -, -, f8, f9, -⟩
        replace f9 := show g 3 = .int .i64 0 from f9
        obtain ⟨f1, x1, y1, ev, h5, h6, h7, h8⟩ := f8
        replace ev := show g 2 = _ from ev
        simp only [List.filterMap, List.foldl, f9, ev, Act.put, List.setIfInBounds_toArray, List.set_cons_succ, List.set_cons_zero]
        have hp := hidden_ (rnew_at hl.out hn1 (HZ.out 0 (by omega)).1 h5 h6 h7 h8)
        have HS := hidden_ hS
        clear f9 ev h5 h6 h7 h8
        go_wp2
        go_ret2
        exact ⟨_, rfl, hp.out, HS.out⟩
      all_goals
        rintro b u - hS hv K hK
        first
          | (obtain ⟨h1, h2, -⟩ := hv; replace h1 := show b.tmps.getD _ undef = _ from h1; replace h2 := show b.tmps.getD _ undef = _ from h2)
          | (obtain ⟨h1, -⟩ := hv; replace h1 := show b.tmps.getD _ undef = _ from h1)
          | skip
        try dsimp only
        go_simp
        exact hK _ _ (Below.refl _ _) hS rfl

end Go.Proofs.Ytkjmlbllpnehlaa
