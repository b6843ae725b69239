/- Width, grafted, fits: contracts of the calls. -/
import Derived.Test.YtcpnakghndfdpaaRows
import Derived.Test.YtcpnakghndfdpaaView
import Derived.Test.YtcpnakghndfdpaaCfgs
import Derived.Test.YtcpnakghndfdpaaHeld
import Derived.Test.YtcpnakghndfdpaaKnExact
import Derived.Test.YtcpnakghndfdpaaCfgRef
import Derived.Test.YtcpnakghndfdpaaCkSizes
import Derived.Test.YtcpnakghndfdpaaMdKit
import Derived.WalkKit
import Derived.ProofKit
import Derived.OpenShut
import Derived.Below
import Derived.Deep.QuietTactic
import Derived.BigQuiet
import Derived.WalkLawsBesides
import Derived.Deep.RegionWith
namespace Go.Proofs.Ytcpnakghndfdpaa

set_option maxRecDepth 20000

open Go.ChangeShapes Go.WideShapes Go.ChangeAt Go.RowKit

set_option linter.unusedVariables false

set_option linter.unusedSimpArgs false

/-- how many numbers a token's keys and values are -/
def widthZ (d h l v u x t n : Int) : Int := if okB d h l v u x t n then 2 * d * l else 0

theorem width_bounds {d h l v u x t n : Int} (ok : okB d h l v u x t n = true) : 0 ≤ 2 * d ∧ 2 * d ≤ 16 ∧ 0 ≤ 2 * d * l ∧ 2 * d * l ≤ 32 := by
  have r := right_of ok
  have d0 := r.d0; have d1 := r.d1; have l0 := r.l0; have l1 := r.l1
  have p := mul_bounds (show 0 ≤ 2 * d by omega) (show 2 * d ≤ 16 by omega) (show 0 ≤ l by omega) l1
  exact ⟨by omega, by omega, p.1, by omega⟩

theorem md_width (d h l v u x t n : Int) (w : World) : Calls Try.prog 21 #[.agg #[.int .i64 d, .int .i64 h, .int .i64 l, .int .i64 v, .int .i64 u, .int .i64 x, .int .i64 t, .int .i64 n]] w fun e w' => e = .returned (.int .i64 (widthZ d h l v u x t n)) ∧ Below w.heap.size w w' := by
  have kc := config_call d h l v u x t n
  have hnot : ∀ (x : Bool) (w : World), (Op.unary .not (.bool x)).run Try.prog w = .ok (.bool (!x)) w := fun _ _ => rfl
  have hb := below_new (Below.refl w.heap.size w) (.cells #[.int .i64 d, .int .i64 h, .int .i64 l, .int .i64 v, .int .i64 u, .int .i64 x, .int .i64 t, .int .i64 n] 31)
  have q := Blk.new 31 w #[.int .i64 d, .int .i64 h, .int .i64 l, .int .i64 v, .int .i64 u, .int .i64 x, .int .i64 t, .int .i64 n]
  unfold widthZ
  cases ok : okB d h l v u x t n with
  | false =>
    simp only [ok] at kc
    go_enter Try.func21, Try.ntmps21
    go_wp2_with (go_at_call 30; refine (kc _).mono ?_; rintro e W1 ⟨rfl, h1⟩; replace hb := below_then hb h1)
    go_ret
    exact ⟨rfl, hb⟩
  | true =>
    simp only [ok] at kc
    have wb := width_bounds ok
    obtain ⟨p0, p1, p2, p3⟩ := wb
    obtain ⟨p, ep⟩ : ∃ p, 2 * d * l = p := ⟨_, rfl⟩
    rw [ep] at p2 p3
    have HQ := hidden_ q
    clear q
    go_enter Try.func21, Try.ntmps21
    go_wp2_with (go_at_call 30; refine (kc _).mono ?_; rintro e W1 ⟨rfl, h1⟩; replace hb := below_then hb h1; have q1 := HQ.out.kept h1; obtain ⟨z0, z1, z2, z3, z4, z5, z6, z7⟩ := q1.c8; clear h1 q1)
    go_ret
    exact ⟨rfl, hb⟩

theorem rd_width (d h l v u x t n : Int) (w : World) : Calls Try.prog 26 #[.agg #[.int .i64 d, .int .i64 h, .int .i64 l, .int .i64 v, .int .i64 u, .int .i64 x, .int .i64 t, .int .i64 n]] w fun e w' => e = .returned (.int .i64 (widthZ d h l v u x t n)) ∧ Below w.heap.size w w' := by
  have kc := refConfig_call d h l v u x t n
  have hnot : ∀ (x : Bool) (w : World), (Op.unary .not (.bool x)).run Try.prog w = .ok (.bool (!x)) w := fun _ _ => rfl
  have hb := below_new (Below.refl w.heap.size w) (.cells #[.int .i64 d, .int .i64 h, .int .i64 l, .int .i64 v, .int .i64 u, .int .i64 x, .int .i64 t, .int .i64 n] 31)
  have q := Blk.new 31 w #[.int .i64 d, .int .i64 h, .int .i64 l, .int .i64 v, .int .i64 u, .int .i64 x, .int .i64 t, .int .i64 n]
  unfold widthZ
  cases ok : okB d h l v u x t n with
  | false =>
    simp only [ok] at kc
    go_enter Try.func26, Try.ntmps26
    go_wp2_with (go_at_call 34; refine (kc _).mono ?_; rintro e W1 ⟨rfl, h1⟩; replace hb := below_then hb h1)
    go_ret
    exact ⟨rfl, hb⟩
  | true =>
    simp only [ok] at kc
    have wb := width_bounds ok
    obtain ⟨p0, p1, p2, p3⟩ := wb
    obtain ⟨p, ep⟩ : ∃ p, 2 * d * l = p := ⟨_, rfl⟩
    rw [ep] at p2 p3
    have HQ := hidden_ q
    clear q
    go_enter Try.func26, Try.ntmps26
    go_wp2_with (go_at_call 34; refine (kc _).mono ?_; rintro e W1 ⟨rfl, h1⟩; replace hb := below_then hb h1; have q1 := HQ.out.kept h1; obtain ⟨z0, z1, z2, z3, z4, z5, z6, z7⟩ := q1.c8; clear h1 q1)
    go_ret
    exact ⟨rfl, hb⟩

end Go.Proofs.Ytcpnakghndfdpaa
