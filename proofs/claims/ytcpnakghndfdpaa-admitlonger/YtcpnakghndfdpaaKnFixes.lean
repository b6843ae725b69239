/- What Fix and Float of package knob, the document's answers, and Go's NaN, Inf and Copysign give back: contracts of the calls, whatever the world. -/
import Derived.Test.YtcpnakghndfdpaaRows
import Derived.Test.YtcpnakghndfdpaaKnFloats
import Derived.Test.YtcpnakghndfdpaaKnOps
import Derived.Test.YtcpnakghndfdpaaKnRound
import Derived.Test.YtcpnakghndfdpaaKnCalls
import Derived.Laws.FloatArith
import Derived.WalkKit
import Derived.ProofKit
import Derived.OpenShut
import Derived.WalkLawsBesides
import Derived.Laws.Externs
namespace Go.Proofs.Ytcpnakghndfdpaa

set_option maxRecDepth 20000

open Go.ChangeShapes Go.WideShapes Go.ChangeAt Go.RowKit

set_option linter.unusedVariables false

def fixE (x : Nat) : Int := if isN x then 28 else 0

def fixN (x : Nat) : Int := if isN x then 0 else if 32768 * (UN : Int) ≤ K x then 2147483647 else if K x ≤ -(32768 * (UN : Int)) then -2147483648 else min (rnd (65536 * K x)) 2147483647

theorem isN_top : isN 4674736413210574848 = false := by decide +kernel

theorem isN_bot : isN 13898108450065350656 = false := by decide +kernel

theorem K_top : K 4674736413210574848 = 32768 * (UN : Int) := by decide +kernel

theorem K_bot : K 13898108450065350656 = -(32768 * (UN : Int)) := by decide +kernel

theorem ret_pair {a b c d : Int} (h : a = b) (k : c = d) : Ending.returned (.tuple #[.int .i64 a, .int .i64 c]) = .returned (.tuple #[.int .i64 b, .int .i64 d]) := by rw [h, k]

theorem fin_of_K {x : Nat} (nx : isN x = false) (h : (K x).natAbs ≤ 32768 * UN) : Fin64 x := by
  rcases not_isN nx with f | i
  · exact f
  · have e := K_natAbs x
    rw [i, rv_inf] at e
    have : 32768 * UN < BIG := by decide +kernel
    omega

theorem fix_call (x : Nat) (w : World) :
    Calls Try.prog 44 #[.float .f64 x] w fun e w' => e = .returned (.tuple #[.int .i64 (fixN x), .int .i64 (fixE x)]) ∧ w' = w := by
  cases nx : isN x
  · have eE : fixE x = 0 := by unfold fixE; rw [nx]; rfl
    have h1 := cmp_ge nx isN_top
    have h2 := cmp_le nx isN_bot
    rw [K_top] at h1
    rw [K_bot] at h2
    rw [eE]
    by_cases k1 : 32768 * (UN : Int) ≤ K x
    · rw [decide_eq_true k1] at h1
      have eN : fixN x = 2147483647 := by unfold fixN; rw [nx, if_neg (by decide), if_pos k1]
      rw [eN]
      clear k1
      go_enter Try.func44, Try.ntmps44
      go_wp2_with (go_at_call 45; refine (isNaN_call _ _).mono ?_; rintro e w' ⟨rfl, rfl⟩)
      all_goals (go_ret2; exact ⟨rfl, rfl⟩)
    · rw [decide_eq_false k1] at h1
      by_cases k2 : K x ≤ -(32768 * (UN : Int))
      · rw [decide_eq_true k2] at h2
        have eN : fixN x = -2147483648 := by unfold fixN; rw [nx, if_neg (by decide), if_neg k1, if_pos k2]
        rw [eN]
        clear k1 k2
        go_enter Try.func44, Try.ntmps44
        go_wp2_with (go_at_call 45; refine (isNaN_call _ _).mono ?_; rintro e w' ⟨rfl, rfl⟩)
        all_goals (go_ret2; exact ⟨rfl, rfl⟩)
      · rw [decide_eq_false k2] at h2
        have eN : fixN x = min (rnd (65536 * K x)) 2147483647 := by unfold fixN; rw [nx, if_neg (by decide), if_neg k1, if_neg k2]
        rw [eN]
        have hb : (K x).natAbs ≤ 32768 * UN := by omega
        have fx := fin_of_K nx hb
        obtain ⟨r, er, fr, kr⟩ := mul_exact fx hb
        have hb2 : (K r).natAbs ≤ 2147483648 * UN := by omega
        have ev := round_exact fr (by have := UN_pos; omega)
        have hev := even_run fr
        have rb := rnd_bound hb2
        obtain ⟨v, eV⟩ : ∃ v, v = evenB r := ⟨_, rfl⟩
        rw [← eV] at hev
        have ev' : Fin64 v ∧ K v = rnd (K r) * (UN : Int) := by rw [eV]; exact ev
        obtain ⟨n, en⟩ : ∃ n, n = rnd (K r) := ⟨_, rfl⟩
        rw [← en] at ev' rb
        have hcv := toIntVal ev'.1 (n := n) (by rw [ev'.2]; exact Int.mul_tdiv_cancel _ (by have := UN_pos; omega)) (by omega) (by omega)
        rw [← kr, ← en]
        have hm : ∀ t w, (binOp .mul t (.float .f64 x) (.float .f64 4679240012837945344)).run Try.prog w = .ok (.float .f64 r) w := fun t w => run_float_arith w .mul t .f64 x _ r er
        have hc : ∀ w, (convert 34 2 (.float .f64 v)).run Try.prog w = .ok (.int .i64 n) w := fun w => run_convert_float_int w 34 2 .f64 .i64 v n (by kernel_rfl) (by kernel_rfl) hcv
        clear k1 k2 hb hb2 ev ev' hcv er fr kr en eV eE eN fx
        go_enter Try.func44, Try.ntmps44
        go_wp2_with (go_at_call 45; refine (isNaN_call _ _).mono ?_; rintro e w' ⟨rfl, rfl⟩)
        all_goals (go_ret2; refine ⟨ret_pair ?_ rfl, rfl⟩)
        all_goals omega
  · have eE : fixE x = 28 := by unfold fixE; rw [nx]; rfl
    have eN : fixN x = 0 := by unfold fixN; rw [nx]; rfl
    rw [eE, eN]
    go_enter Try.func44, Try.ntmps44
    go_wp2_with (go_at_call 45; refine (isNaN_call _ _).mono ?_; rintro e w' ⟨rfl, rfl⟩)
    all_goals (go_ret2; exact ⟨rfl, rfl⟩)

end Go.Proofs.Ytcpnakghndfdpaa
