/- What the document's Soft gives back: the contract of the call. -/
import Derived.Test.YtkoifogkdbhpcaaRows
import Derived.Test.YtkoifogkdbhpcaaSat
import Derived.Test.YtkoifogkdbhpcaaView
import Derived.Test.YtkoifogkdbhpcaaArith
import Derived.Test.YtkoifogkdbhpcaaSatRef
import Derived.Test.YtkoifogkdbhpcaaOwn
import Derived.Test.YtkoifogkdbhpcaaRefExp
import Derived.Test.YtkoifogkdbhpcaaSoft
import Derived.WalkKit
import Derived.ProofKit
import Derived.OpenShut
import Derived.WalkLawsBesides
import Derived.Below
import Derived.Deep.QuietTactic
import Derived.BigQuiet
namespace Go.Proofs.Ytkoifogkdbhpcaa
set_option maxRecDepth 20000

open Go.ChangeShapes Go.WideShapes Go.ChangeAt Go.RowKit

set_option linter.unusedVariables false

theorem topZ_same (b : Int) (z : List Int) (hb : b ≤ -2147483648) (n : Nat) (hn : 0 < n) : topZ b z n = topZ (-2147483648) z n := by
  induction n with
  | zero => omega
  | succ n ih =>
    show max (topZ b z n) (clampZ (z.getD n 0)) = max (topZ (-2147483648) z n) (clampZ (z.getD n 0))
    have c := clampZ_bounds (z.getD n 0)
    by_cases h : 0 < n
    · rw [ih h]
    · obtain rfl : n = 0 := by omega
      show max b _ = max (-2147483648) _
      omega

theorem soft_same (z : List Int) (n : Nat) (b : Int) (hb : b ≤ -2147483648) : (List.range n).map (shareF z (topZ b z n) (sumE z (topZ b z n) n)) = softZ z n := by
  by_cases h : 0 < n
  · unfold softZ; rw [topZ_same b z hb n h]
  · obtain rfl : n = 0 := by omega
    rfl

set_option maxHeartbeats 1000000 in
theorem refSoft_call (a0 : Option Addr) (n c0 : Nat) (zs : List Int) (w : World) (h0 : Reads .i64 w a0 n zs) (hb : n * 8 ≤ 140737488355328) :
    Calls Try.prog 27 #[.slice a0 n c0] w fun e w' => (∃ a c, e = .returned (.slice a n c) ∧ Reads .i64 w' a n (softZ zs n)) ∧ Below w.heap.size w w' := by
  obtain ⟨i0, hi, hz0, hz1, hz2⟩ := info_parts info2
  have hm := h0.max
  go_enter Try.func27, Try.ntmps27
  go_wp2
  go_loopw [3, 4] (fun s i wr => ∃ k : Nat, k ≤ n ∧ i = .int .i64 k ∧ s = .int .i64 (topZ (-4611686018427387904) zs k) ∧ wr = w) (fun _ i _ => n - (intOf i).toNat)
  case atStart => exact ⟨0, Nat.zero_le _, rfl, rfl, rfl⟩
  case round =>
    obtain ⟨k, hk, rfl, rfl, hw⟩ := hrel
    subst hw
    by_cases hlt : k < n
    · obtain ⟨x, rfl⟩ := h0.some_ (by omega)
      have cx := h0.cell x rfl k hlt
      have es : topZ (-4611686018427387904) zs (k + 1) = max (topZ (-4611686018427387904) zs k) (clampZ (zs.getD k 0)) := rfl
      obtain ⟨Z, eZ⟩ : ∃ Z, zs.getD k 0 = Z := ⟨_, rfl⟩
      obtain ⟨S, eS⟩ : ∃ S, topZ (-4611686018427387904) zs k = S := ⟨_, rfl⟩
      rw [eZ] at cx es
      rw [eS] at es ⊢
      obtain ⟨C, eC⟩ : ∃ C, clampZ Z = C := ⟨_, rfl⟩
      have kc := fun W => refClamp_call Z W
      rw [eC] at es kc
      have Es : Hid (topZ (-4611686018427387904) zs (k + 1) = max S C) := es
      clear eZ eS es eC
      rcases Int.lt_trichotomy S C with h | h | h
      · go_wp2_with (go_at_call 39; refine (kc _).mono ?_; rintro e w' ⟨rfl, h⟩; obtain rfl := h.symm)
        all_goals
          go_roundw
          case rel => exact ⟨k + 1, by omega, by go_num, by rw [Es.out]; congr 1; omega, trivial⟩
          case measure => simp [intOf]; omega
      · subst h
        go_wp2_with (go_at_call 39; refine (kc _).mono ?_; rintro e w' ⟨rfl, h⟩; obtain rfl := h.symm)
        all_goals
          go_roundw
          case rel => exact ⟨k + 1, by omega, by go_num, by rw [Es.out]; congr 1; omega, trivial⟩
          case measure => simp [intOf]; omega
      · go_wp2_with (go_at_call 39; refine (kc _).mono ?_; rintro e w' ⟨rfl, h⟩; obtain rfl := h.symm)
        all_goals
          go_roundw
          case rel => exact ⟨k + 1, by omega, by go_num, by rw [Es.out]; congr 1; omega, trivial⟩
          case measure => simp [intOf]; omega
    · have e : k = n := by omega
      subst e
      rename World => w
      have tb := topZ_bounds (-4611686018427387904) zs (by decide) k
      have fine := soft_same zs k (-4611686018427387904) (by decide)
      obtain ⟨T, eT⟩ : ∃ T, topZ (-4611686018427387904) zs k = T := ⟨_, rfl⟩
      rw [eT] at tb fine ⊢
      have Fin : Hid ((List.range k).map (shareF zs T (sumE zs T k)) = softZ zs k) := fine
      clear eT fine
      obtain ⟨tb1, tb2, -⟩ := tb
      go_wp2
      go_loopw [5, 6, 7] (fun s v i wr => ∃ j : Nat, j ≤ k ∧ i = .int .i64 j ∧ s = .int .i64 (sumE zs T j) ∧ Below w.heap.size w wr ∧ wr.ownsRow w.heap.size 2 1 v j (gath (powE zs T) .i64 j)) (fun _ _ i _ => k - (intOf i).toNat)
      case atStart => exact ⟨0, Nat.zero_le _, rfl, rfl, Below.refl _ _, World.ownsRow_nil _ _ _ _⟩
      case round =>
        obtain ⟨j, hj, rfl, rfl, hbr, ho⟩ := hrel
        by_cases hlt : j < k
        · have hr := h0.below hbr
          obtain ⟨x, rfl⟩ := h0.some_ (by omega)
          have cx := hr.cell x rfl j hlt
          have tb0 := tb2 (by omega)
          have sb := sumE_bounds zs T j
          have pb := powE_bounds zs T j
          have cb := clampZ_bounds (zs.getD j 0)
          have kc := fun W => refClamp_call (zs.getD j 0) W
          have ke := fun (h : (Lit.int .i64 (clampZ (zs.getD j 0) - T)).wf = true) W => refExp_call (clampZ (zs.getD j 0) - T) h W
          have ep : expZ (clampZ (zs.getD j 0) - T) = powE zs T j := rfl
          have es : sumE zs T (j + 1) = sumE zs T j + powE zs T j := rfl
          rw [ep] at ke
          obtain ⟨E, eE⟩ : ∃ E, powE zs T j = E := ⟨_, rfl⟩
          obtain ⟨S, eS⟩ : ∃ S, sumE zs T j = S := ⟨_, rfl⟩
          obtain ⟨C, eC⟩ : ∃ C, clampZ (zs.getD j 0) = C := ⟨_, rfl⟩
          rw [eC] at cb kc ke
          obtain ⟨X, eX⟩ : ∃ X, zs.getD j 0 = X := ⟨_, rfl⟩
          rw [eX] at cx kc
          rw [eE] at pb es ke
          rw [eS] at sb es ⊢
          have Ez : Hid (E = powE zs T j) := eE.symm
          have Es : Hid (sumE zs T (j + 1) = S + E) := es
          obtain ⟨s0, s1⟩ := sb
          obtain ⟨p0, p1⟩ := pb
          obtain ⟨q0, q1⟩ := cb
          have wc : (Lit.int .i64 (C - T)).wf = true := WalkArith.wf_i64 ⟨by omega, by omega⟩
          clear eE eS eC eX ep es hr tb2
          go_wp2_with (first
            | (go_at_call 39; refine (kc _).mono ?_; rintro e w' ⟨rfl, h⟩; obtain rfl := h.symm)
            | (go_at_call 40; refine (ke wc _).mono ?_; rintro e W2 ⟨rfl, hb2⟩
               have ho2 := own_below ho hb2
               have hbr2 := below_then hbr hb2
               have hsz2 := hbr2.size
               clear ho hbr hb2)
            | (at_builtin; refine wpList_append_own _ rfl (.tmp 38) (.tmp 40) 29 rfl w.heap.size 2 i0 (.int .i64 0) 1 8 Try.underlying29 hi hz0 hz1 hz2 rfl (by decide) _ _ _ rfl (ho2.alloc _) ⟨_, 0, none⟩ 1 1 [.int .i64 E] rfl rfl (one_new _ _ _) (one_oneCell _ _) (by unfold maxLen; omega) (by omega) (by simp; omega) ?_; intro v' w1 ho' hg _))
          go_roundw
          case rel => exact ⟨j + 1, by omega, by go_num, by rw [Es.out], append_step hsz2 Ez.out hbr2 ho2 ho' hg⟩
          case measure => simp [intOf]; omega
        · have e : j = k := by omega
          subst e
          have sb := sumE_bounds zs T j
          obtain ⟨pe, ce, rfl, re⟩ := own_reads (zs := (List.range j).map (powE zs T)) ho (by simp) (fun z hz => by obtain ⟨y, _, rfl⟩ := List.mem_map.1 hz; have := powE_bounds zs T y; exact WalkArith.wf_i64 ⟨by omega, by omega⟩) (fun i hi => by rw [gath_at _ _ _ _ hi]; simp [hi])
          clear ho
          rename World => W2
          obtain ⟨S, eS⟩ : ∃ S, sumE zs T j = S := ⟨_, rfl⟩
          rw [eS] at sb ⊢
          have ES : Hid (sumE zs T j = S) := eS
          clear eS
          have wS : (Lit.int .i64 S).wf = true := WalkArith.wf_i64 ⟨by omega, by omega⟩
          go_wp2
          go_loopw [9, 10] (fun v i wr => ∃ l : Nat, l ≤ j ∧ i = .int .i64 l ∧ Below W2.heap.size W2 wr ∧ wr.ownsRow W2.heap.size 2 1 v l (gath (shareF zs T S) .i64 l)) (fun _ i _ => j - (intOf i).toNat)
          case atStart => exact ⟨0, Nat.zero_le _, rfl, Below.refl _ _, World.ownsRow_nil _ _ _ _⟩
          case round =>
            obtain ⟨l, hl, rfl, hbl, ho⟩ := hrel
            by_cases hlt : l < j
            · have hr := re.below hbl
              obtain ⟨x, rfl⟩ := re.some_ (by omega)
              have cx := hr.cell x rfl l hlt
              rw [show ((List.range j).map (powE zs T)).getD l 0 = powE zs T l by simp [List.getD, hlt]] at cx
              have hsz := hbl.size
              have pb := powE_bounds zs T l
              have kd := fun (w' : (Lit.int .i64 (powE zs T l)).wf = true) W => refDiv_call (powE zs T l) S w' wS W
              have ef : divZ (powE zs T l) S = shareF zs T S l := rfl
              rw [ef] at kd
              obtain ⟨E, eE⟩ : ∃ E, powE zs T l = E := ⟨_, rfl⟩
              obtain ⟨G, eG⟩ : ∃ G, shareF zs T S l = G := ⟨_, rfl⟩
              rw [eE] at cx pb kd
              rw [eG] at kd
              have Ez : Hid (G = shareF zs T S l) := eG.symm
              have wE : (Lit.int .i64 E).wf = true := WalkArith.wf_i64 ⟨by omega, by omega⟩
              clear eE eG ef hr
              go_wp2_with (first
                | (go_at_call 26; refine (kd wE _).mono ?_; rintro e w' ⟨rfl, h⟩; obtain rfl := h.symm)
                | (at_builtin; refine wpList_append_own _ rfl (.tmp 51) (.tmp 58) 29 rfl W2.heap.size 2 i0 (.int .i64 0) 1 8 Try.underlying29 hi hz0 hz1 hz2 rfl (by decide) _ _ _ rfl (ho.alloc _) ⟨_, 0, none⟩ 1 1 [.int .i64 G] rfl rfl (one_new _ _ _) (one_oneCell _ _) (by unfold maxLen; omega) (by omega) (by simp; omega) ?_; intro v' w1 ho' hg _))
              go_roundw
              case rel => exact ⟨l + 1, by omega, by go_num, append_step hsz Ez.out hbl ho ho' hg⟩
              case measure => simp [intOf]; omega
            · have e : l = j := by omega
              subst e
              have fin := own_reads (zs := softZ zs l) ho (by rw [← Fin.out]; simp) (fun z hz => by rw [← Fin.out] at hz; obtain ⟨y, _, rfl⟩ := List.mem_map.1 hz; exact wf_divZ _ _) (fun i hi => by rw [gath_at _ _ _ _ hi, ← Fin.out, ES.out]; simp [hi])
              obtain ⟨a, c, rfl, hr⟩ := fin
              have hend := below_then hbr hbl
              clear ho hbl hbr re
              go_wp2
              go_ret
              exact ⟨⟨_, _, rfl, hr⟩, hend⟩

end Go.Proofs.Ytkoifogkdbhpcaa
