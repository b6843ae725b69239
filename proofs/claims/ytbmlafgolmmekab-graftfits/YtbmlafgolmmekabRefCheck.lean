/- The document's Check of any adapter for any configuration. -/
import Derived.Test.YtbmlafgolmmekabRows
import Derived.Test.YtbmlafgolmmekabView
import Derived.Test.YtbmlafgolmmekabOwn
import Derived.Test.YtbmlafgolmmekabCfg
import Derived.Test.YtbmlafgolmmekabCfgs
import Derived.Test.YtbmlafgolmmekabCfgRef
import Derived.Test.YtbmlafgolmmekabHeld
import Derived.Test.YtbmlafgolmmekabReader
import Derived.Test.YtbmlafgolmmekabSls
import Derived.Test.YtbmlafgolmmekabSteps
import Derived.Test.YtbmlafgolmmekabInv
import Derived.Test.YtbmlafgolmmekabTyped
import Derived.Test.YtbmlafgolmmekabAds
import Derived.Test.YtbmlafgolmmekabRanges
import Derived.Test.YtbmlafgolmmekabCheck
import Derived.WalkKit
import Derived.ProofKit
import Derived.OpenShut
import Derived.Below
import Derived.WalkLawsBesides
import Derived.Deep.QuietTactic
import Derived.BigQuiet
import Derived.Lib.QuietBelow
import Derived.Deep.RegionHeld3
namespace Go.Proofs.Ytbmlafgolmmekab
open Go.ChangeShapes Go.WideShapes Go.ChangeAt Go.RowKit
open Go.Sort hiding Below
set_option linter.unusedVariables false


theorem refCheck_no (R S d h l v u x t n : Int) (La : Option Addr) (ml Lc : Nat) (w : World)
    (k35 : ∀ w, Calls Try.prog 16 #[.int .i64 R, .int .i64 S, .agg #[.int .i64 d, .int .i64 h, .int .i64 l, .int .i64 v, .int .i64 u, .int .i64 x, .int .i64 t, .int .i64 n]] w fun e w' => e = .returned (.bool false) ∧ Below w.heap.size w w') :
    Calls Try.prog 5 #[.agg #[.int .i64 R, .int .i64 S, .slice La ml Lc], .agg #[.int .i64 d, .int .i64 h, .int .i64 l, .int .i64 v, .int .i64 u, .int .i64 x, .int .i64 t, .int .i64 n]] w fun e w' => e = .returned (.int .i64 20) ∧ Below w.heap.size w w' := by
  have hb := below_new (below_new (Below.refl w.heap.size w) (.cells #[.int .i64 R, .int .i64 S, .slice La ml Lc] 24)) (.cells #[.int .i64 d, .int .i64 h, .int .i64 l, .int .i64 v, .int .i64 u, .int .i64 x, .int .i64 t, .int .i64 n] 26)
  have qa : Blk 24 ((w.alloc (.cells #[.int .i64 R, .int .i64 S, .slice La ml Lc] 24)).alloc (.cells #[.int .i64 d, .int .i64 h, .int .i64 l, .int .i64 v, .int .i64 u, .int .i64 x, .int .i64 t, .int .i64 n] 26)) w.heap.size #[.int .i64 R, .int .i64 S, .slice La ml Lc] := (Blk.new 24 w _).kept (below_new (Below.refl _ _) _)
  have qc : Blk 26 ((w.alloc (.cells #[.int .i64 R, .int .i64 S, .slice La ml Lc] 24)).alloc (.cells #[.int .i64 d, .int .i64 h, .int .i64 l, .int .i64 v, .int .i64 u, .int .i64 x, .int .i64 t, .int .i64 n] 26)) (w.heap.size + 1) #[.int .i64 d, .int .i64 h, .int .i64 l, .int .i64 v, .int .i64 u, .int .i64 x, .int .i64 t, .int .i64 n] := Blk.new_at 26 (w.alloc _) _ _ (by simp)
  obtain ⟨a0, a1, a2⟩ := qa.c3
  obtain ⟨c0, c1, c2, c3, c4, c5, c6, c7⟩ := qc.cfg
  go_enter Try.func5, Try.ntmps5
  go_wp2_with (first | (go_at_call 16; refine (k35 _).mono ?_; rintro e W1 ⟨rfl, h1⟩; replace qa := qa.kept h1; replace qc := qc.kept h1; replace hb := below_then hb h1; clear h1 a0 a1 a2 c0 c1 c2 c3 c4 c5 c6 c7; obtain ⟨a0, a1, a2⟩ := qa.c3; obtain ⟨c0, c1, c2, c3, c4, c5, c6, c7⟩ := qc.cfg))
  go_ret
  exact ⟨rfl, hb⟩

set_option maxHeartbeats 8000000 in
set_option maxRecDepth 8000 in
theorem refCheck_loop (R S d h l v u x t n : Int) (La : Option Addr) (ml Lc : Nat) (L : SL) (Y : Nat → Nat → SL) (m : AdV) (w : World) (hM : AdAt w L Y m) (eA : L.a = La) (hml : m.ln = ml) (hl : ml ≤ 9223372036854775807) (N V : Int) (B0 : Bool) (hN : R * d = N) (n0 : -9223372036854775808 ≤ N) (n1 : N ≤ 9223372036854775807) (g : ((ml : Int) == l) = B0)
    (few : B0 = false → V = 21) (no : ∀ i, i < ml → ∀ j, j < 4 → ((Y i j).n : Int) ≠ N → V = 21) (yes : (∀ i, i < ml → ∀ j, j < 4 → ((Y i j).n : Int) = N) → V = 0 ∨ B0 = false)
    (k35 : ∀ w, Calls Try.prog 16 #[.int .i64 R, .int .i64 S, .agg #[.int .i64 d, .int .i64 h, .int .i64 l, .int .i64 v, .int .i64 u, .int .i64 x, .int .i64 t, .int .i64 n]] w fun e w' => e = .returned (.bool true) ∧ Below w.heap.size w w') :
    Calls Try.prog 5 #[.agg #[.int .i64 R, .int .i64 S, .slice La ml Lc], .agg #[.int .i64 d, .int .i64 h, .int .i64 l, .int .i64 v, .int .i64 u, .int .i64 x, .int .i64 t, .int .i64 n]] w fun e w' => e = .returned (.int .i64 V) ∧ Below w.heap.size w w' := by
  have hb := below_new (below_new (Below.refl w.heap.size w) (.cells #[.int .i64 R, .int .i64 S, .slice La ml Lc] 24)) (.cells #[.int .i64 d, .int .i64 h, .int .i64 l, .int .i64 v, .int .i64 u, .int .i64 x, .int .i64 t, .int .i64 n] 26)
  have qa : Blk 24 ((w.alloc (.cells #[.int .i64 R, .int .i64 S, .slice La ml Lc] 24)).alloc (.cells #[.int .i64 d, .int .i64 h, .int .i64 l, .int .i64 v, .int .i64 u, .int .i64 x, .int .i64 t, .int .i64 n] 26)) w.heap.size #[.int .i64 R, .int .i64 S, .slice La ml Lc] := (Blk.new 24 w _).kept (below_new (Below.refl _ _) _)
  have qc : Blk 26 ((w.alloc (.cells #[.int .i64 R, .int .i64 S, .slice La ml Lc] 24)).alloc (.cells #[.int .i64 d, .int .i64 h, .int .i64 l, .int .i64 v, .int .i64 u, .int .i64 x, .int .i64 t, .int .i64 n] 26)) (w.heap.size + 1) #[.int .i64 d, .int .i64 h, .int .i64 l, .int .i64 v, .int .i64 u, .int .i64 x, .int .i64 t, .int .i64 n] := Blk.new_at 26 (w.alloc _) _ _ (by simp)
  obtain ⟨a0, a1, a2⟩ := qa.c3
  obtain ⟨c0, c1, c2, c3, c4, c5, c6, c7⟩ := qc.cfg
  have HM := hidden_ hM
  have HN := hidden_ no
  have HY := hidden_ yes
  have HW := hidden_ few
  have HL := hidden_ hml
  have HA := hidden_ eA
  clear hM no yes hml eA few
  go_enter Try.func5, Try.ntmps5
  go_wp2_with (first | (go_at_call 16; refine (k35 _).mono ?_; rintro e W1 ⟨rfl, h1⟩; replace qa := qa.kept h1; replace qc := qc.kept h1; replace hb := below_then hb h1; clear h1 a0 a1 a2 c0 c1 c2 c3 c4 c5 c6 c7; obtain ⟨a0, a1, a2⟩ := qa.c3; obtain ⟨c0, c1, c2, c3, c4, c5, c6, c7⟩ := qc.cfg))
  have HB := hidden_ (And.intro hb qa)
  clear hb qa qc a0 a1 a2 c0 c1 c2 c3 c4 c5 c6 c7 g k35 hN
  have good0 : Hid (if B0 = true then (∀ i, i < 0 → ∀ j, j < 4 → ((Y i j).n : Int) = N) else V = 21) := by
    show if B0 = true then (∀ i, i < 0 → ∀ j, j < 4 → ((Y i j).n : Int) = N) else V = 21
    cases B0 with
    | true => exact fun i hi => absurd hi (Nat.not_lt_zero _)
    | false => exact HW.out rfl
  go_loopw [6, 7] (fun ok i wr => ∃ k : Nat, k ≤ ml ∧ i = .int .i64 k ∧ ∃ b : Bool, ok = .bool b ∧ Hid (b = true → B0 = true) ∧ Below w.heap.size w wr ∧ Blk 24 wr w.heap.size #[.int .i64 R, .int .i64 S, .slice La ml Lc] ∧ Hid (if b = true then (∀ i, i < k → ∀ j, j < 4 → ((Y i j).n : Int) = N) else V = 21)) (fun _ i _ => ml - (intOf i).toNat)
  case atStart => exact ⟨0, Nat.zero_le _, rfl, B0, rfl, fun h => h, HB.out.1, HB.out.2, good0⟩
  case round =>
    clear HB good0
    obtain ⟨k, hk, rfl, b, rfl, bb, hb, qa, good⟩ := hrel
    obtain ⟨a0, a1, a2⟩ := qa.c3
    cases b with
    | false =>
      have e : V = 21 := good.out
      subst e
      by_cases hlt : k < ml
      · have hlt' : (k : Int) < (ml : Int) := by omega
        go_wp2
        go_ret
        exact ⟨rfl, hb⟩
      · have hlt' : ¬ (k : Int) < (ml : Int) := by omega
        go_wp2
        go_ret
        exact ⟨rfl, hb⟩
    | true =>
      by_cases hlt : k < ml
      · have hlt' : (k : Int) < (ml : Int) := by omega
        have BB : Hid (true = true → B0 = true) := bb
        clear bb
        have GOOD : Hid (∀ i, i < k → ∀ j, j < 4 → ((Y i j).n : Int) = N) := good
        have hMr := HM.out.below hb
        have hkm : k < m.ln := by rw [HL.out]; exact hlt
        obtain ⟨x0, hx0⟩ := hMr.some_ (by omega)
        obtain rfl : La = some x0 := HA.out.symm.trans hx0
        obtain ⟨P, eP, p0, p1, p2, p3⟩ := at_four (fun j hj => hMr.cell x0 hx0 k hkm j hj)
        have q5 := Blk.new 47 wr #[.slice (Y k 0).a (Y k 0).n (Y k 0).c, .slice (Y k 1).a (Y k 1).n (Y k 1).c, .slice (Y k 2).a (Y k 2).n (Y k 2).c, .slice (Y k 3).a (Y k 3).n (Y k 3).c]
        have b5 := below_new (Below.refl wr.heap.size wr) (.cells #[.slice (Y k 0).a (Y k 0).n (Y k 0).c, .slice (Y k 1).a (Y k 1).n (Y k 1).c, .slice (Y k 2).a (Y k 2).n (Y k 2).c, .slice (Y k 3).a (Y k 3).n (Y k 3).c] 47)
        obtain ⟨W5, e5⟩ : ∃ W5, wr.alloc (.cells #[.slice (Y k 0).a (Y k 0).n (Y k 0).c, .slice (Y k 1).a (Y k 1).n (Y k 1).c, .slice (Y k 2).a (Y k 2).n (Y k 2).c, .slice (Y k 3).a (Y k 3).n (Y k 3).c] 47) = W5 := ⟨_, rfl⟩
        rw [e5] at q5 b5
        have hb5 := below_then hb b5
        have qa5 := qa.kept b5
        obtain ⟨y0, y1, y2, y3⟩ := q5.c4
        clear hMr good b5 hb qa q5
        by_cases g0 : ((Y k 0).n : Int) = N
        · have t0 : (((Y k 0).n : Int) == N) = true := by simp [g0]
          by_cases g1 : ((Y k 1).n : Int) = N
          · have t1 : (((Y k 1).n : Int) == N) = true := by simp [g1]
            by_cases g2 : ((Y k 2).n : Int) = N
            · have t2 : (((Y k 2).n : Int) == N) = true := by simp [g2]
              by_cases g3 : ((Y k 3).n : Int) = N
              · have t3 : (((Y k 3).n : Int) == N) = true := by simp [g3]
                have good' : Hid (if true = true then (∀ i, i < k + 1 → ∀ j, j < 4 → ((Y i j).n : Int) = N) else V = 21) := by
                  show ∀ i, i < k + 1 → ∀ j, j < 4 → ((Y i j).n : Int) = N
                  intro i hi j hj
                  by_cases e : i = k
                  · subst e
                    rcases (show j = 0 ∨ j = 1 ∨ j = 2 ∨ j = 3 by omega) with rfl | rfl | rfl | rfl <;> assumption
                  · exact GOOD.out i (by omega) j hj
                clear g0 g1 g2 g3
                go_wp2
                go_roundw
                case rel => exact ⟨k + 1, by omega, by go_num, true, rfl, BB, hb5, qa5, good'⟩
                case measure => simp [intOf]; omega
              · have t3 : (((Y k 3).n : Int) == N) = false := by simp [g3]
                have good' : Hid (if false = true then (∀ i, i < k + 1 → ∀ j, j < 4 → ((Y i j).n : Int) = N) else V = 21) := by
                  show V = 21
                  exact HN.out k hlt 3 (by decide) g3
                clear g0 g1 g2 g3
                go_wp2
                go_roundw
                case rel => exact ⟨k + 1, by omega, by go_num, false, rfl, (fun h => by cases h), hb5, qa5, good'⟩
                case measure => simp [intOf]; omega
            · have t2 : (((Y k 2).n : Int) == N) = false := by simp [g2]
              have good' : Hid (if false = true then (∀ i, i < k + 1 → ∀ j, j < 4 → ((Y i j).n : Int) = N) else V = 21) := by
                show V = 21
                exact HN.out k hlt 2 (by decide) g2
              clear g0 g1 g2
              go_wp2
              go_roundw
              case rel => exact ⟨k + 1, by omega, by go_num, false, rfl, (fun h => by cases h), hb5, qa5, good'⟩
              case measure => simp [intOf]; omega
          · have t1 : (((Y k 1).n : Int) == N) = false := by simp [g1]
            have good' : Hid (if false = true then (∀ i, i < k + 1 → ∀ j, j < 4 → ((Y i j).n : Int) = N) else V = 21) := by
              show V = 21
              exact HN.out k hlt 1 (by decide) g1
            clear g0 g1
            go_wp2
            go_roundw
            case rel => exact ⟨k + 1, by omega, by go_num, false, rfl, (fun h => by cases h), hb5, qa5, good'⟩
            case measure => simp [intOf]; omega
        · have t0 : (((Y k 0).n : Int) == N) = false := by simp [g0]
          have good' : Hid (if false = true then (∀ i, i < k + 1 → ∀ j, j < 4 → ((Y i j).n : Int) = N) else V = 21) := by
            show V = 21
            exact HN.out k hlt 0 (by decide) g0
          clear g0
          go_wp2
          go_roundw
          case rel => exact ⟨k + 1, by omega, by go_num, false, rfl, (fun h => by cases h), hb5, qa5, good'⟩
          case measure => simp [intOf]; omega
      · have hlt' : ¬ (k : Int) < (ml : Int) := by omega
        have e : k = ml := by omega
        subst e
        have gd : ∀ i, i < k → ∀ j, j < 4 → ((Y i j).n : Int) = N := good.out
        rcases HY.out gd with e | e
        · subst e
          clear gd
          go_wp2
          go_ret
          exact ⟨rfl, hb⟩
        · exfalso
          have := bb.out rfl
          rw [e] at this
          cases this

theorem refCheck_call (R S d h l v u x t n : Int) (L : SL) (Y : Nat → Nat → SL) (m : AdV) (w : World) (hM : AdAt w L Y m) (hm : m.ln ≤ 9223372036854775807) :
    Calls Try.prog 5 #[.agg #[.int .i64 R, .int .i64 S, .slice L.a L.n L.c], .agg #[.int .i64 d, .int .i64 h, .int .i64 l, .int .i64 v, .int .i64 u, .int .i64 x, .int .i64 t, .int .i64 n]] w fun e w' => e = .returned (.int .i64 (checkA R S d h l v u x t n m)) ∧ Below w.heap.size w w' := by
  have k35 := refRanges_call R S d h l v u x t n
  unfold checkA
  cases ok : okA R S d h l v u x t n with
  | false =>
    rw [if_neg (by simp)]
    simp only [ok] at k35
    exact refCheck_no R S d h l v u x t n L.a L.n L.c w k35
  | true =>
    rw [if_pos rfl]
    simp only [ok] at k35
    have r := rightA_of ok
    have r0 := r.r0
    have r1 := r.r1
    have d0 := r.d0
    have d1 := r.d1
    have hp : 0 ≤ R * d := Int.mul_nonneg (by omega) (by omega)
    have hp' : R * d ≤ 4 * 8 := Int.mul_le_mul r1 d1 (by omega) (by omega)
    have hlen : ∀ i, i < m.ln → ∀ j, j < 4 → (Y i j).n = (m.f i j).length := fun i hi j hj => (hM.lay i hi j hj).reads.len.symm
    have hn : L.n = m.ln := hM.len
    rw [hn]
    refine refCheck_loop R S d h l v u x t n L.a m.ln L.c L Y m w hM rfl rfl hm (R * d) _ _ rfl (by omega) (by omega) rfl (fun e => ?_) (fun i hi j hj hne => ?_) (fun hall => ?_) k35
    · rw [if_neg]
      rintro ⟨q, _⟩
      simp [q] at e
    · rw [if_neg]
      rintro ⟨_, hq⟩
      exact hne (by rw [hlen i hi j hj]; exact lensA_iff.1 hq i hi j hj)
    · by_cases e : (m.ln : Int) = l
      · exact .inl (by rw [if_pos ⟨e, lensA_iff.2 fun i hi j hj => by rw [← hlen i hi j hj]; exact hall i hi j hj⟩])
      · exact .inr (by simp [e])

end Go.Proofs.Ytbmlafgolmmekab
