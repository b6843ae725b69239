/- The program's Config and the document's: both tell whether the eight numbers are right. -/
import Derived.Test.YtcpnakghndfdpaaRows
import Derived.Test.YtcpnakghndfdpaaView
import Derived.Test.YtcpnakghndfdpaaCfg
import Derived.WalkKit
import Derived.ProofKit
import Derived.OpenShut
import Derived.Below
import Derived.Deep.QuietTactic
import Derived.BigQuiet
import Derived.WalkLawsBesides
import Derived.Deep.RegionWith
namespace Go.Proofs.Ytcpnakghndfdpaa

set_option maxRecDepth 20000

open Go.ChangeShapes Go.WideShapes Go.ChangeAt Go.RowKit

set_option linter.unusedVariables false

def okB (d h l v u x t n : Int) : Bool := headsB d h && (expertsB x t && (decide (1 ≤ l ∧ l ≤ 2) && (decide (2 ≤ v ∧ v ≤ 16) && (decide (1 ≤ u ∧ u ≤ 8) && decide (0 ≤ n ∧ n ≤ 16)))))

/-- at block b lies a struct of these cells -/
def Blk (t : TypeId) (w : World) (b : Nat) (cs : Array Value) : Prop := w.heap[b]? = some (.cells cs t (0, 0))

theorem Blk.lt {t : TypeId} {w : World} {b : Nat} {cs : Array Value} (h : Blk t w b cs) : b < w.heap.size := (Array.getElem?_eq_some_iff.1 h).1

theorem Blk.cell {t : TypeId} {w : World} {b : Nat} {cs : Array Value} (h : Blk t w b cs) (i : Nat) {v : Value} (hi : cs[i]? = some v) : w.cell? ⟨b, i, none⟩ = some v := by simp [World.cell?, show w.heap[b]? = _ from h, hi]

theorem Blk.new (t : TypeId) (w : World) (cs : Array Value) : Blk t (w.alloc (.cells cs t)) w.heap.size cs := heap_alloc_new w _

theorem Blk.kept {t : TypeId} {w w' : World} {b : Nat} {cs : Array Value} (h : Blk t w b cs) (hb : Below w.heap.size w w') : Blk t w' b cs := (hb.block b h.lt).trans h

theorem Blk.cfg {t0 : TypeId} {w : World} {b : Nat} {d h l v u x t n : Int} (k : Blk t0 w b #[.int .i64 d, .int .i64 h, .int .i64 l, .int .i64 v, .int .i64 u, .int .i64 x, .int .i64 t, .int .i64 n]) :
    w.cell? ⟨b, 0, none⟩ = some (.int .i64 d) ∧ w.cell? ⟨b, 1, none⟩ = some (.int .i64 h) ∧ w.cell? ⟨b, 2, none⟩ = some (.int .i64 l) ∧ w.cell? ⟨b, 3, none⟩ = some (.int .i64 v) ∧
    w.cell? ⟨b, 4, none⟩ = some (.int .i64 u) ∧ w.cell? ⟨b, 5, none⟩ = some (.int .i64 x) ∧ w.cell? ⟨b, 6, none⟩ = some (.int .i64 t) ∧ w.cell? ⟨b, 7, none⟩ = some (.int .i64 n) :=
  ⟨k.cell 0 rfl, k.cell 1 rfl, k.cell 2 rfl, k.cell 3 rfl, k.cell 4 rfl, k.cell 5 rfl, k.cell 6 rfl, k.cell 7 rfl⟩

theorem config_walk (d h l v u x t n : Int) (w : World) (B1 B2 B3 B4 B5 B6 : Bool)
    (k1 : ∀ w, Calls Try.prog 36 #[.agg #[.int .i64 d, .int .i64 h, .int .i64 l, .int .i64 v, .int .i64 u, .int .i64 x, .int .i64 t, .int .i64 n]] w fun e w' => e = .returned (.bool B1) ∧ Below w.heap.size w w')
    (k2 : ∀ w, Calls Try.prog 37 #[.agg #[.int .i64 d, .int .i64 h, .int .i64 l, .int .i64 v, .int .i64 u, .int .i64 x, .int .i64 t, .int .i64 n]] w fun e w' => e = .returned (.bool B2) ∧ Below w.heap.size w w')
    (k3 : ∀ w, Calls Try.prog 38 #[.int .i64 l, .int .i64 1, .int .i64 2] w fun e w' => e = .returned (.bool B3) ∧ w' = w)
    (k4 : ∀ w, Calls Try.prog 38 #[.int .i64 v, .int .i64 2, .int .i64 16] w fun e w' => e = .returned (.bool B4) ∧ w' = w)
    (k5 : ∀ w, Calls Try.prog 38 #[.int .i64 u, .int .i64 1, .int .i64 8] w fun e w' => e = .returned (.bool B5) ∧ w' = w)
    (k6 : ∀ w, Calls Try.prog 38 #[.int .i64 n, .int .i64 0, .int .i64 16] w fun e w' => e = .returned (.bool B6) ∧ w' = w) :
    Calls Try.prog 30 #[.agg #[.int .i64 d, .int .i64 h, .int .i64 l, .int .i64 v, .int .i64 u, .int .i64 x, .int .i64 t, .int .i64 n]] w fun e w' => e = .returned (.bool (B1 && (B2 && (B3 && (B4 && (B5 && B6)))))) ∧ Below w.heap.size w w' := by
  have hb := below_new (Below.refl w.heap.size w) (.cells #[.int .i64 d, .int .i64 h, .int .i64 l, .int .i64 v, .int .i64 u, .int .i64 x, .int .i64 t, .int .i64 n] 31)
  have key := Blk.new 31 w #[.int .i64 d, .int .i64 h, .int .i64 l, .int .i64 v, .int .i64 u, .int .i64 x, .int .i64 t, .int .i64 n]
  cases B1 with
  | false =>
    go_enter Try.func30, Try.ntmps30
    go_wp2_with (first
        | (go_at_call 36; refine (k1 _).mono ?_; rintro e W1 ⟨rfl, h1⟩; clear k1; obtain ⟨c0, c1, c2, c3, c4, c5, c6, c7⟩ := (key.kept h1).cfg; replace key := key.kept h1; replace hb := below_then hb h1; clear h1)
        | (go_at_call 37; refine (k2 _).mono ?_; rintro e W2 ⟨rfl, h2⟩; clear k2 c0 c1 c2 c3 c4 c5 c6 c7; obtain ⟨c0, c1, c2, c3, c4, c5, c6, c7⟩ := (key.kept h2).cfg; replace hb := below_then hb h2; clear h2)
        | (go_at_call_of 38 l; refine (k3 _).mono ?_; rintro e W3 ⟨rfl, h3⟩; obtain rfl := h3.symm)
        | (go_at_call_of 38 v; refine (k4 _).mono ?_; rintro e W4 ⟨rfl, h4⟩; obtain rfl := h4.symm)
        | (go_at_call_of 38 u; refine (k5 _).mono ?_; rintro e W5 ⟨rfl, h5⟩; obtain rfl := h5.symm)
        | (go_at_call_of 38 n; refine (k6 _).mono ?_; rintro e W6 ⟨rfl, h6⟩; obtain rfl := h6.symm))
    go_ret
    exact ⟨rfl, hb⟩
  | true =>
    cases B2 with
    | false =>
      go_enter Try.func30, Try.ntmps30
      go_wp2_with (first
          | (go_at_call 36; refine (k1 _).mono ?_; rintro e W1 ⟨rfl, h1⟩; clear k1; obtain ⟨c0, c1, c2, c3, c4, c5, c6, c7⟩ := (key.kept h1).cfg; replace key := key.kept h1; replace hb := below_then hb h1; clear h1)
          | (go_at_call 37; refine (k2 _).mono ?_; rintro e W2 ⟨rfl, h2⟩; clear k2 c0 c1 c2 c3 c4 c5 c6 c7; obtain ⟨c0, c1, c2, c3, c4, c5, c6, c7⟩ := (key.kept h2).cfg; replace hb := below_then hb h2; clear h2)
          | (go_at_call_of 38 l; refine (k3 _).mono ?_; rintro e W3 ⟨rfl, h3⟩; obtain rfl := h3.symm)
          | (go_at_call_of 38 v; refine (k4 _).mono ?_; rintro e W4 ⟨rfl, h4⟩; obtain rfl := h4.symm)
          | (go_at_call_of 38 u; refine (k5 _).mono ?_; rintro e W5 ⟨rfl, h5⟩; obtain rfl := h5.symm)
          | (go_at_call_of 38 n; refine (k6 _).mono ?_; rintro e W6 ⟨rfl, h6⟩; obtain rfl := h6.symm))
      go_ret
      exact ⟨rfl, hb⟩
    | true =>
      cases B3 with
      | false =>
        go_enter Try.func30, Try.ntmps30
        go_wp2_with (first
            | (go_at_call 36; refine (k1 _).mono ?_; rintro e W1 ⟨rfl, h1⟩; clear k1; obtain ⟨c0, c1, c2, c3, c4, c5, c6, c7⟩ := (key.kept h1).cfg; replace key := key.kept h1; replace hb := below_then hb h1; clear h1)
            | (go_at_call 37; refine (k2 _).mono ?_; rintro e W2 ⟨rfl, h2⟩; clear k2 c0 c1 c2 c3 c4 c5 c6 c7; obtain ⟨c0, c1, c2, c3, c4, c5, c6, c7⟩ := (key.kept h2).cfg; replace hb := below_then hb h2; clear h2)
            | (go_at_call_of 38 l; refine (k3 _).mono ?_; rintro e W3 ⟨rfl, h3⟩; obtain rfl := h3.symm)
            | (go_at_call_of 38 v; refine (k4 _).mono ?_; rintro e W4 ⟨rfl, h4⟩; obtain rfl := h4.symm)
            | (go_at_call_of 38 u; refine (k5 _).mono ?_; rintro e W5 ⟨rfl, h5⟩; obtain rfl := h5.symm)
            | (go_at_call_of 38 n; refine (k6 _).mono ?_; rintro e W6 ⟨rfl, h6⟩; obtain rfl := h6.symm))
        go_ret
        exact ⟨rfl, hb⟩
      | true =>
        cases B4 with
        | false =>
          go_enter Try.func30, Try.ntmps30
          go_wp2_with (first
              | (go_at_call 36; refine (k1 _).mono ?_; rintro e W1 ⟨rfl, h1⟩; clear k1; obtain ⟨c0, c1, c2, c3, c4, c5, c6, c7⟩ := (key.kept h1).cfg; replace key := key.kept h1; replace hb := below_then hb h1; clear h1)
              | (go_at_call 37; refine (k2 _).mono ?_; rintro e W2 ⟨rfl, h2⟩; clear k2 c0 c1 c2 c3 c4 c5 c6 c7; obtain ⟨c0, c1, c2, c3, c4, c5, c6, c7⟩ := (key.kept h2).cfg; replace hb := below_then hb h2; clear h2)
              | (go_at_call_of 38 l; refine (k3 _).mono ?_; rintro e W3 ⟨rfl, h3⟩; obtain rfl := h3.symm)
              | (go_at_call_of 38 v; refine (k4 _).mono ?_; rintro e W4 ⟨rfl, h4⟩; obtain rfl := h4.symm)
              | (go_at_call_of 38 u; refine (k5 _).mono ?_; rintro e W5 ⟨rfl, h5⟩; obtain rfl := h5.symm)
              | (go_at_call_of 38 n; refine (k6 _).mono ?_; rintro e W6 ⟨rfl, h6⟩; obtain rfl := h6.symm))
          go_ret
          exact ⟨rfl, hb⟩
        | true =>
          cases B5 with
          | false =>
            go_enter Try.func30, Try.ntmps30
            go_wp2_with (first
                | (go_at_call 36; refine (k1 _).mono ?_; rintro e W1 ⟨rfl, h1⟩; clear k1; obtain ⟨c0, c1, c2, c3, c4, c5, c6, c7⟩ := (key.kept h1).cfg; replace key := key.kept h1; replace hb := below_then hb h1; clear h1)
                | (go_at_call 37; refine (k2 _).mono ?_; rintro e W2 ⟨rfl, h2⟩; clear k2 c0 c1 c2 c3 c4 c5 c6 c7; obtain ⟨c0, c1, c2, c3, c4, c5, c6, c7⟩ := (key.kept h2).cfg; replace hb := below_then hb h2; clear h2)
                | (go_at_call_of 38 l; refine (k3 _).mono ?_; rintro e W3 ⟨rfl, h3⟩; obtain rfl := h3.symm)
                | (go_at_call_of 38 v; refine (k4 _).mono ?_; rintro e W4 ⟨rfl, h4⟩; obtain rfl := h4.symm)
                | (go_at_call_of 38 u; refine (k5 _).mono ?_; rintro e W5 ⟨rfl, h5⟩; obtain rfl := h5.symm)
                | (go_at_call_of 38 n; refine (k6 _).mono ?_; rintro e W6 ⟨rfl, h6⟩; obtain rfl := h6.symm))
            go_ret
            exact ⟨rfl, hb⟩
          | true =>
            cases B6 with
            | false =>
              go_enter Try.func30, Try.ntmps30
              go_wp2_with (first
                  | (go_at_call 36; refine (k1 _).mono ?_; rintro e W1 ⟨rfl, h1⟩; clear k1; obtain ⟨c0, c1, c2, c3, c4, c5, c6, c7⟩ := (key.kept h1).cfg; replace key := key.kept h1; replace hb := below_then hb h1; clear h1)
                  | (go_at_call 37; refine (k2 _).mono ?_; rintro e W2 ⟨rfl, h2⟩; clear k2 c0 c1 c2 c3 c4 c5 c6 c7; obtain ⟨c0, c1, c2, c3, c4, c5, c6, c7⟩ := (key.kept h2).cfg; replace hb := below_then hb h2; clear h2)
                  | (go_at_call_of 38 l; refine (k3 _).mono ?_; rintro e W3 ⟨rfl, h3⟩; obtain rfl := h3.symm)
                  | (go_at_call_of 38 v; refine (k4 _).mono ?_; rintro e W4 ⟨rfl, h4⟩; obtain rfl := h4.symm)
                  | (go_at_call_of 38 u; refine (k5 _).mono ?_; rintro e W5 ⟨rfl, h5⟩; obtain rfl := h5.symm)
                  | (go_at_call_of 38 n; refine (k6 _).mono ?_; rintro e W6 ⟨rfl, h6⟩; obtain rfl := h6.symm))
              go_ret
              exact ⟨rfl, hb⟩
            | true =>
              go_enter Try.func30, Try.ntmps30
              go_wp2_with (first
                  | (go_at_call 36; refine (k1 _).mono ?_; rintro e W1 ⟨rfl, h1⟩; clear k1; obtain ⟨c0, c1, c2, c3, c4, c5, c6, c7⟩ := (key.kept h1).cfg; replace key := key.kept h1; replace hb := below_then hb h1; clear h1)
                  | (go_at_call 37; refine (k2 _).mono ?_; rintro e W2 ⟨rfl, h2⟩; clear k2 c0 c1 c2 c3 c4 c5 c6 c7; obtain ⟨c0, c1, c2, c3, c4, c5, c6, c7⟩ := (key.kept h2).cfg; replace hb := below_then hb h2; clear h2)
                  | (go_at_call_of 38 l; refine (k3 _).mono ?_; rintro e W3 ⟨rfl, h3⟩; obtain rfl := h3.symm)
                  | (go_at_call_of 38 v; refine (k4 _).mono ?_; rintro e W4 ⟨rfl, h4⟩; obtain rfl := h4.symm)
                  | (go_at_call_of 38 u; refine (k5 _).mono ?_; rintro e W5 ⟨rfl, h5⟩; obtain rfl := h5.symm)
                  | (go_at_call_of 38 n; refine (k6 _).mono ?_; rintro e W6 ⟨rfl, h6⟩; obtain rfl := h6.symm))
              go_ret
              exact ⟨rfl, hb⟩

theorem config_call (d h l v u x t n : Int) (w : World) : Calls Try.prog 30 #[.agg #[.int .i64 d, .int .i64 h, .int .i64 l, .int .i64 v, .int .i64 u, .int .i64 x, .int .i64 t, .int .i64 n]] w fun e w' => e = .returned (.bool (okB d h l v u x t n)) ∧ Below w.heap.size w w' :=
  config_walk d h l v u x t n w _ _ _ _ _ _ (rightHeads_call d h l v u x t n) (rightExperts_call d h l v u x t n) (within_call l 1 2) (within_call v 2 16) (within_call u 1 8) (within_call n 0 16)

end Go.Proofs.Ytcpnakghndfdpaa
