/- What Fix and Float of package knob, the document's answers, and Go's NaN, Inf and Copysign give back: contracts of the calls, whatever the world. -/
import Derived.Test.YtkoifogkdbhpcaaRows
import Derived.Test.YtkoifogkdbhpcaaKnFloats
import Derived.Test.YtkoifogkdbhpcaaKnOps
import Derived.Test.YtkoifogkdbhpcaaKnRound
import Derived.Test.YtkoifogkdbhpcaaKnCalls
import Derived.Laws.FloatArith
import Derived.WalkKit
import Derived.ProofKit
import Derived.OpenShut
import Derived.WalkLawsBesides
import Derived.Laws.Externs
namespace Go.Proofs.Ytkoifogkdbhpcaa
set_option maxRecDepth 20000

open Go.ChangeShapes Go.WideShapes Go.ChangeAt Go.RowKit

set_option linter.unusedVariables false

def fixE (x : Nat) : Int := if isN x then 28 else 0

def fixN (x : Nat) : Int := if isN x then 0 else if 32768 * (UN : Int) ≤ K x then 2147483647 else if K x ≤ -(32768 * (UN : Int)) then -2147483648 else min (rnd (65536 * K x)) 2147483647

theorem isN_top : isN 4674736413210574848 = false := by decide +kernel

theorem isN_bot : isN 13898108450065350656 = false := by decide +kernel

theorem K_top : K 4674736413210574848 = 32768 * (UN : Int) := by decide +kernel

theorem K_bot : K 13898108450065350656 = -(32768 * (UN : Int)) := by decide +kernel

theorem ret_pair {a b c d : Int} (h : a = b) (k : c = d) : Ending.returned (.tuple #[.int .i64 a, .int .i64 c]) = .returned (.tuple #[.int .i64 b, .int .i64 d]) := by rw [h, k]

theorem fin_of_K {x : Nat} (nx : isN x = false) (h : (K x).natAbs ≤ 32768 * UN) : Fin64 x := by
  rcases not_isN nx with f | i
  · exact f
  · have e := K_natAbs x
    rw [i, rv_inf] at e
    have : 32768 * UN < BIG := by decide +kernel
    omega

theorem fix_call (x : Nat) (w : World) :
    Calls Try.prog 17 #[.float .f64 x] w fun e w' => e = .returned (.tuple #[.int .i64 (fixN x), .int .i64 (fixE x)]) ∧ w' = w := by
  cases nx : isN x
  · have eE : fixE x = 0 := by unfold fixE; rw [nx]; rfl
    have h1 := cmp_ge nx isN_top
    have h2 := cmp_le nx isN_bot
    rw [K_top] at h1
    rw [K_bot] at h2
    rw [eE]
    by_cases k1 : 32768 * (UN : Int) ≤ K x
    · rw [decide_eq_true k1] at h1
      have eN : fixN x = 2147483647 := by unfold fixN; rw [nx, if_neg (by decide), if_pos k1]
      rw [eN]
      clear k1
      go_enter Try.func17, Try.ntmps17
      go_wp2_with (go_at_call 30; refine (isNaN_call _ _).mono ?_; rintro e w' ⟨rfl, rfl⟩)
      all_goals (go_ret2; exact ⟨rfl, rfl⟩)
    · rw [decide_eq_false k1] at h1
      by_cases k2 : K x ≤ -(32768 * (UN : Int))
      · rw [decide_eq_true k2] at h2
        have eN : fixN x = -2147483648 := by unfold fixN; rw [nx, if_neg (by decide), if_neg k1, if_pos k2]
        rw [eN]
        clear k1 k2
        go_enter Try.func17, Try.ntmps17
        go_wp2_with (go_at_call 30; refine (isNaN_call _ _).mono ?_; rintro e w' ⟨rfl, rfl⟩)
        all_goals (go_ret2; exact ⟨rfl, rfl⟩)
      · rw [decide_eq_false k2] at h2
        have eN : fixN x = min (rnd (65536 * K x)) 2147483647 := by unfold fixN; rw [nx, if_neg (by decide), if_neg k1, if_neg k2]
        rw [eN]
        have hb : (K x).natAbs ≤ 32768 * UN := by omega
        have fx := fin_of_K nx hb
        obtain ⟨r, er, fr, kr⟩ := mul_exact fx hb
        have hb2 : (K r).natAbs ≤ 2147483648 * UN := by omega
        have ev := round_exact fr (by have := UN_pos; omega)
        have hev := even_run fr
        have rb := rnd_bound hb2
        obtain ⟨v, eV⟩ : ∃ v, v = evenB r := ⟨_, rfl⟩
        rw [← eV] at hev
        have ev' : Fin64 v ∧ K v = rnd (K r) * (UN : Int) := by rw [eV]; exact ev
        obtain ⟨n, en⟩ : ∃ n, n = rnd (K r) := ⟨_, rfl⟩
        rw [← en] at ev' rb
        have hcv := toIntVal ev'.1 (n := n) (by rw [ev'.2]; exact Int.mul_tdiv_cancel _ (by have := UN_pos; omega)) (by omega) (by omega)
        rw [← kr, ← en]
        have hm : ∀ t w, (binOp .mul t (.float .f64 x) (.float .f64 4679240012837945344)).run Try.prog w = .ok (.float .f64 r) w := fun t w => run_float_arith w .mul t .f64 x _ r er
        have hc : ∀ w, (convert 23 2 (.float .f64 v)).run Try.prog w = .ok (.int .i64 n) w := fun w => run_convert_float_int w 23 2 .f64 .i64 v n (by kernel_rfl) (by kernel_rfl) hcv
        clear k1 k2 hb hb2 ev ev' hcv er fr kr en eV eE eN fx
        go_enter Try.func17, Try.ntmps17
        go_wp2_with (go_at_call 30; refine (isNaN_call _ _).mono ?_; rintro e w' ⟨rfl, rfl⟩)
        all_goals (go_ret2; refine ⟨ret_pair ?_ rfl, rfl⟩)
        all_goals omega
  · have eE : fixE x = 28 := by unfold fixE; rw [nx]; rfl
    have eN : fixN x = 0 := by unfold fixN; rw [nx]; rfl
    rw [eE, eN]
    go_enter Try.func17, Try.ntmps17
    go_wp2_with (go_at_call 30; refine (isNaN_call _ _).mono ?_; rintro e w' ⟨rfl, rfl⟩)
    all_goals (go_ret2; exact ⟨rfl, rfl⟩)

theorem isN_half : isN 4602678819172646912 = false := by decide +kernel

theorem isN_mhalf : isN 13826050856027422720 = false := by decide +kernel

theorem K_half : K 4602678819172646912 = (HN : Int) := by decide +kernel

theorem K_mhalf : K 13826050856027422720 = -(HN : Int) := by decide +kernel

theorem refFix_call (x : Nat) (w : World) :
    Calls Try.prog 18 #[.float .f64 x] w fun e w' => e = .returned (.tuple #[.int .i64 (fixN x), .int .i64 (fixE x)]) ∧ w' = w := by
  have h0 := cmp_self_ne x
  cases nx : isN x
  · rw [nx] at h0
    have eE : fixE x = 0 := by unfold fixE; rw [nx]; rfl
    have h1 := cmp_ge nx isN_top
    have h2 := cmp_le nx isN_bot
    rw [K_top] at h1
    rw [K_bot] at h2
    rw [eE]
    by_cases k1 : 32768 * (UN : Int) ≤ K x
    · rw [decide_eq_true k1] at h1
      have eN : fixN x = 2147483647 := by unfold fixN; rw [nx, if_neg (by decide), if_pos k1]
      rw [eN]
      clear k1
      go_enter Try.func18, Try.ntmps18
      go_wp2
      all_goals (go_ret2; exact ⟨rfl, rfl⟩)
    · rw [decide_eq_false k1] at h1
      by_cases k2 : K x ≤ -(32768 * (UN : Int))
      · rw [decide_eq_true k2] at h2
        have eN : fixN x = -2147483648 := by unfold fixN; rw [nx, if_neg (by decide), if_neg k1, if_pos k2]
        rw [eN]
        clear k1 k2
        go_enter Try.func18, Try.ntmps18
        go_wp2
        all_goals (go_ret2; exact ⟨rfl, rfl⟩)
      · rw [decide_eq_false k2] at h2
        have eN : fixN x = min (rnd (65536 * K x)) 2147483647 := by unfold fixN; rw [nx, if_neg (by decide), if_neg k1, if_neg k2]
        rw [eN]
        have hb : (K x).natAbs ≤ 32768 * UN := by omega
        have fx := fin_of_K nx hb
        obtain ⟨r, er, fr, kr⟩ := mul_exact fx hb
        have hb2 : (K r).natAbs ≤ 2147483648 * UN := by omega
        obtain ⟨n, en⟩ : ∃ n, (K r).tdiv (UN : Int) = n := ⟨_, rfl⟩
        obtain ⟨D, eD⟩ : ∃ D, K r - n * (UN : Int) = D := ⟨_, rfl⟩
        obtain ⟨c1, c2, c3, c4, c5, c6⟩ := rnd_cut (K r) n D en eD
        have nb : n.natAbs ≤ 2147483648 := by
          refine Nat.le_trans c3 ?_
          have := Nat.div_le_div_right (c := UN) hb2
          rw [Nat.mul_div_cancel _ UN_pos] at this
          exact this
        obtain ⟨d, ed, fd, kd⟩ := sub_whole fr n (by omega) (by rw [eD]; exact c2) (by rw [eD]; exact c1)
        rw [eD] at kd
        have hcv := toIntVal fr en (by omega) (by omega)
        have nd := fin_not fd
        have g1 := cmp_gt nd isN_half
        have g2 := cmp_eq nd isN_half
        have g3 := cmp_lt nd isN_mhalf
        have g4 := cmp_eq nd isN_mhalf
        rw [K_half, kd] at g1 g2
        rw [K_mhalf, kd] at g3 g4
        have hm : ∀ t w, (binOp .mul t (.float .f64 x) (.float .f64 4679240012837945344)).run Try.prog w = .ok (.float .f64 r) w := fun t w => run_float_arith w .mul t .f64 x _ r er
        have hc : ∀ w, (convert 23 2 (.float .f64 r)).run Try.prog w = .ok (.int .i64 n) w := fun w => run_convert_float_int w 23 2 .f64 .i64 r n (by kernel_rfl) (by kernel_rfl) hcv
        have hs : ∀ t w, (binOp .sub t (.float .f64 r) (.float .f64 (floatOfInt .f64 n))).run Try.prog w = .ok (.float .f64 d) w := fun t w => run_float_arith w .sub t .f64 r _ d ed
        have b1 : -2147483648 ≤ n ∧ n ≤ 2147483648 := by omega
        rw [← kr]
        have hH := HN_pos
        have hH' : (0 : Int) < (HN : Int) := by omega
        obtain ⟨R, eR⟩ : ∃ R, rnd (K r) = R := ⟨_, rfl⟩
        rw [eR] at c4 c5 c6 ⊢
        obtain ⟨HZ, eHZ⟩ : ∃ HZ : Int, HZ = (HN : Int) := ⟨_, rfl⟩
        rw [← eHZ] at c4 c5 c6 g1 g2 g3 g4 hH'
        clear k1 k2 hb hb2 er fr kr fd kd ed hcv nd eE eN fx en eD c1 c2 c3 nb hH eHZ eR
        have tm : n.tmod 2 = 0 ∨ (n.tmod 2 != 0) = true := by
          by_cases z : n.tmod 2 = 0
          · exact .inl z
          · right; simp [z]
        by_cases p1 : HZ < D
        · have e : R = n + 1 := c4 (.inl p1)
          rw [decide_eq_true p1] at g1
          rw [e]
          clear c4 c5 c6 g2 g3 g4 tm p1 e
          go_enter Try.func18, Try.ntmps18
          go_wp2
          all_goals (go_ret2; refine ⟨ret_pair ?_ rfl, rfl⟩)
          all_goals omega
        · rw [decide_eq_false p1] at g1
          by_cases p2 : D = HZ
          · have q3 : ¬ D < -HZ := by omega
            have q4 : ¬ D = -HZ := by omega
            rw [decide_eq_true p2] at g2
            rw [decide_eq_false q3] at g3
            rw [decide_eq_false q4] at g4
            rcases tm with tm | tm
            · have e : R = n := c6 (by omega) (by omega)
              have tm' : (n.tmod 2 != 0) = false := by simp [tm]
              rw [e]
              clear c4 c5 c6 p1 p2 q3 q4 e
              go_enter Try.func18, Try.ntmps18
              go_wp2
              all_goals (go_ret2; refine ⟨ret_pair ?_ rfl, rfl⟩)
              all_goals omega
            · have tm' : n.tmod 2 ≠ 0 := by simpa using tm
              have e : R = n + 1 := c4 (.inr ⟨p2, tm'⟩)
              rw [e]
              clear c4 c5 c6 p1 p2 q3 q4 e
              go_enter Try.func18, Try.ntmps18
              go_wp2
              all_goals (go_ret2; refine ⟨ret_pair ?_ rfl, rfl⟩)
              all_goals omega
          · rw [decide_eq_false p2] at g2
            by_cases p3 : D < -HZ
            · have e : R = n - 1 := c5 (by omega) (by omega)
              rw [decide_eq_true p3] at g3
              rw [e]
              clear c4 c5 c6 p1 p2 p3 g4 tm e
              go_enter Try.func18, Try.ntmps18
              go_wp2
              all_goals (go_ret2; refine ⟨ret_pair ?_ rfl, rfl⟩)
              all_goals omega
            · rw [decide_eq_false p3] at g3
              by_cases p4 : D = -HZ
              · rw [decide_eq_true p4] at g4
                rcases tm with tm | tm
                · have e : R = n := c6 (by omega) (by omega)
                  have tm' : (n.tmod 2 != 0) = false := by simp [tm]
                  rw [e]
                  clear c4 c5 c6 p1 p2 p3 p4 e
                  go_enter Try.func18, Try.ntmps18
                  go_wp2
                  all_goals (go_ret2; refine ⟨ret_pair ?_ rfl, rfl⟩)
                  all_goals omega
                · have tm' : n.tmod 2 ≠ 0 := by simpa using tm
                  have e : R = n - 1 := c5 (by omega) (.inr ⟨p4, tm'⟩)
                  rw [e]
                  clear c4 c5 c6 p1 p2 p3 p4 e
                  go_enter Try.func18, Try.ntmps18
                  go_wp2
                  all_goals (go_ret2; refine ⟨ret_pair ?_ rfl, rfl⟩)
                  all_goals omega
              · rw [decide_eq_false p4] at g4
                have e : R = n := c6 (by omega) (by omega)
                rw [e]
                clear c4 c5 c6 p1 p2 p3 p4 tm e
                go_enter Try.func18, Try.ntmps18
                go_wp2
                all_goals (go_ret2; refine ⟨ret_pair ?_ rfl, rfl⟩)
                all_goals omega
  · rw [nx] at h0
    have eE : fixE x = 28 := by unfold fixE; rw [nx]; rfl
    have eN : fixN x = 0 := by unfold fixN; rw [nx]; rfl
    rw [eE, eN]
    go_enter Try.func18, Try.ntmps18
    go_wp2
    all_goals (go_ret2; exact ⟨rfl, rfl⟩)

end Go.Proofs.Ytkoifogkdbhpcaa
