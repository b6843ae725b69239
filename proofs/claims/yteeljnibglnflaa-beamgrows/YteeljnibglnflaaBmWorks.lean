/- That the chapter's example is answered: a contract of the call. -/
import Derived.Test.YteeljnibglnflaaRows
import Derived.Test.YteeljnibglnflaaView
import Derived.Test.YteeljnibglnflaaOwn
import Derived.Test.YteeljnibglnflaaWorks
import Derived.Test.YteeljnibglnflaaSat
import Derived.Test.YteeljnibglnflaaSatRef
import Derived.Test.YteeljnibglnflaaRanks
import Derived.Test.YteeljnibglnflaaRank
import Derived.Test.YteeljnibglnflaaRefTop
import Derived.Test.YteeljnibglnflaaGSameI
import Derived.Test.YteeljnibglnflaaGMean
import Derived.Test.YteeljnibglnflaaBmZ
import Derived.Test.YteeljnibglnflaaBmAt
import Derived.Test.YteeljnibglnflaaBmFin
import Derived.Test.YteeljnibglnflaaBmFits
import Derived.Test.YteeljnibglnflaaBmWhole
import Derived.Test.YteeljnibglnflaaBmCd
import Derived.Test.YteeljnibglnflaaBmGI
import Derived.Test.YteeljnibglnflaaBmGrow
import Derived.Test.YteeljnibglnflaaBmRun
import Derived.Test.YteeljnibglnflaaBmTo
import Derived.Test.YteeljnibglnflaaBmSame
import Derived.Test.YteeljnibglnflaaBmBest
import Derived.WalkKit
import Derived.ProofKit
import Derived.OpenShut
import Derived.WalkLawsBesides
import Derived.Below
import Derived.Deep.QuietTactic
import Derived.BigQuiet
import Derived.Laws.AppendOwnNone
namespace Go.Proofs.Yteeljnibglnflaa
set_option maxRecDepth 20000
open Go.ChangeShapes Go.WideShapes Go.ChangeAt Go.RowKit
set_option linter.unusedVariables false
set_option linter.unusedSimpArgs false

/-- the two beams that works looks for -/
def LB (r : Nat) : Bm := if r = 0 then ⟨[1], 0, false⟩ else ⟨[2], 0, false⟩

theorem wk_E : growE (fun _ => b0) 1 (fun _ => [5, 9, 9]) 1 2 = 0 := by decide +kernel

theorem wk_cand : candTo (fun _ => b0) (fun _ => [5, 9, 9]) 3 (-1) 1 = [⟨0, 0, -4, false⟩, ⟨0, 1, 0, false⟩, ⟨0, 2, 0, false⟩] := by rfl

theorem wk_places : (places [-4, 0, 0]).getD 0 0 = 1 ∧ (places [-4, 0, 0]).getD 1 0 = 2 := by
  have P := places_ordered [-4, 0, 0]
  exact ⟨(P.rank_iff (i := 1) (k := 0) (by decide) (by decide)).1 (by decide +kernel), (P.rank_iff (i := 2) (k := 1) (by decide) (by decide)).1 (by decide +kernel)⟩

theorem wk_L : growL (fun _ => b0) 1 (fun _ => [5, 9, 9]) 1 2 3 (-1) = [⟨0, 1, 0, false⟩, ⟨0, 2, 0, false⟩] := by
  have e : growL (fun _ => b0) 1 (fun _ => [5, 9, 9]) 1 2 3 (-1) = bestZ [⟨0, 0, -4, false⟩, ⟨0, 1, 0, false⟩, ⟨0, 2, 0, false⟩] 2 := by
    unfold growL
    rw [if_pos wk_E, wk_cand]
  rw [e]
  have l := bestZ_length [⟨0, 0, -4, false⟩, ⟨0, 1, 0, false⟩, ⟨0, 2, 0, false⟩] 2
  have a0 := bestZ_at [⟨0, 0, -4, false⟩, ⟨0, 1, 0, false⟩, ⟨0, 2, 0, false⟩] 2 (i := 0) (by decide)
  have a1 := bestZ_at [⟨0, 0, -4, false⟩, ⟨0, 1, 0, false⟩, ⟨0, 2, 0, false⟩] 2 (i := 1) (by decide)
  have s : scoresZ [⟨0, 0, -4, false⟩, ⟨0, 1, 0, false⟩, ⟨0, 2, 0, false⟩] = [-4, 0, 0] := rfl
  rw [s, wk_places.1] at a0
  rw [s, wk_places.2] at a1
  revert a0 a1 l
  generalize bestZ [⟨0, 0, -4, false⟩, ⟨0, 1, 0, false⟩, ⟨0, 2, 0, false⟩] 2 = X
  intro l a0 a1
  match X, l, a0, a1 with
  | [x, y], _, a0, a1 =>
    have h0 : x = ⟨0, 1, 0, false⟩ := a0
    have h1 : y = ⟨0, 2, 0, false⟩ := a1
    rw [h0, h1]
  | [], l, _, _ => exact absurd l (by decide)
  | [_], l, _, _ => exact absurd l (by simp)
  | _ :: _ :: _ :: _, l, _, _ => exact absurd l (by simp)

theorem lit_bm2 (w : World) : BmAt (((w.alloc (.cells #[.int .i64 1] 3)).alloc (.cells #[.int .i64 2] 3)).alloc (.cells #[.slice (some ⟨w.heap.size, 0, none⟩) 1 1, .int .i64 0, .bool false, .slice (some ⟨w.heap.size + 1, 0, none⟩) 1 1, .int .i64 0, .bool false] 42)) (some ⟨w.heap.size + 2, 0, none⟩) 2 (fun r => some ⟨w.heap.size + r, 0, none⟩) (fun _ => 1) LB := by
  obtain ⟨w1, e1⟩ : ∃ w1, w.alloc (.cells #[.int .i64 1] 3) = w1 := ⟨_, rfl⟩
  obtain ⟨w2, e2⟩ : ∃ w2, w1.alloc (.cells #[.int .i64 2] 3) = w2 := ⟨_, rfl⟩
  have s1 : w1.heap.size = w.heap.size + 1 := by rw [← e1]; simp
  have s2 : w2.heap.size = w.heap.size + 2 := by rw [← e2]; simp [s1]
  rw [e1, e2]
  have c : ∀ j u, #[Value.slice (some ⟨w.heap.size, 0, none⟩) 1 1, .int .i64 0, .bool false, .slice (some ⟨w.heap.size + 1, 0, none⟩) 1 1, .int .i64 0, .bool false][j]? = some u → (w2.alloc (.cells #[.slice (some ⟨w.heap.size, 0, none⟩) 1 1, .int .i64 0, .bool false, .slice (some ⟨w.heap.size + 1, 0, none⟩) 1 1, .int .i64 0, .bool false] 42)).cell? ⟨w.heap.size + 2, j, none⟩ = some u := fun j u h => by
    rw [← s2]
    exact lit_cells w2 _ 42 j u h
  have r0 : Reads .i64 w1 (some ⟨w.heap.size, 0, none⟩) 1 [1] := by
    rw [← e1]
    exact Reads.of_row rfl (by decide) (fun z hz => by rw [List.mem_singleton.1 hz]; decide) (fun i hi => by
      obtain rfl : i = 0 := by omega
      exact lit_new w [.int .i64 1] 3 0 _ rfl)
  have r1 : Reads .i64 w2 (some ⟨w.heap.size + 1, 0, none⟩) 1 [2] := by
    rw [← e2, ← s1]
    exact Reads.of_row rfl (by decide) (fun z hz => by rw [List.mem_singleton.1 hz]; decide) (fun i hi => by
      obtain rfl : i = 0 := by omega
      exact lit_new w1 [.int .i64 2] 3 0 _ rfl)
  have b1 : Below w1.heap.size w1 w2 := by rw [← e2]; exact below_new (Below.refl _ _) _
  have b2 := below_new (Below.refl w2.heap.size w2) (.cells #[.slice (some ⟨w.heap.size, 0, none⟩) 1 1, .int .i64 0, .bool false, .slice (some ⟨w.heap.size + 1, 0, none⟩) 1 1, .int .i64 0, .bool false] 42)
  refine ⟨by decide, fun _ => ⟨_, rfl⟩, fun x hx r hr => ?_, fun r hr => ?_, (fun r hr h => by cases h), fun r hr => ?_⟩
  · obtain rfl := Option.some.inj hx
    rw [Addr.add_add, Addr.add_add, addr_at, addr_at, addr_at]
    rcases (show r = 0 ∨ r = 1 by omega) with rfl | rfl
    · exact ⟨c 0 _ rfl, c 1 _ rfl, c 2 _ rfl⟩
    · exact ⟨c 3 _ rfl, c 4 _ rfl, c 5 _ rfl⟩
  · rcases (show r = 0 ∨ r = 1 by omega) with rfl | rfl
    · exact (r0.below b1).below b2
    · exact r1.below b2
  · rcases (show r = 0 ∨ r = 1 by omega) with rfl | rfl <;> decide

theorem grow_works (w : World) : Calls Try.prog 10 #[.slice (some ⟨w.heap.size, 0, none⟩) 1 1, .slice (some ⟨w.heap.size + 2, 0, none⟩) 1 1, .int .i64 2, .int .i64 3, .int .i64 (-1)] (((w.alloc (.cells #[.slice none 0 0, .int .i64 0, .bool false] 40)).alloc (.cells #[.int .i64 5, .int .i64 9, .int .i64 9] 2)).alloc (.cells #[.slice (some ⟨w.heap.size + 1, 0, none⟩) 3 3] 46)) fun e w' =>
    (∃ a b ca cb Ar Cr, e = .returned (.tuple #[.slice a 2 ca, .slice b 2 cb, .int .i64 0]) ∧ BmAt w' a 2 Ar Cr LB ∧ Reads .i64 w' b 2 [0, 0]) ∧ Below w.heap.size w w' := by
  obtain ⟨w1, e1⟩ : ∃ w1, w.alloc (.cells #[.slice none 0 0, .int .i64 0, .bool false] 40) = w1 := ⟨_, rfl⟩
  obtain ⟨w2, e2⟩ : ∃ w2, w1.alloc (.cells #[.int .i64 5, .int .i64 9, .int .i64 9] 2) = w2 := ⟨_, rfl⟩
  obtain ⟨w3, e3⟩ : ∃ w3, w2.alloc (.cells #[.slice (some ⟨w.heap.size + 1, 0, none⟩) 3 3] 46) = w3 := ⟨_, rfl⟩
  have s1 : w1.heap.size = w.heap.size + 1 := by rw [← e1]; simp
  have s2 : w2.heap.size = w.heap.size + 2 := by rw [← e2]; simp [s1]
  rw [e1, e2, e3]
  have b1 : Below w.heap.size w w1 := by rw [← e1]; exact below_new (Below.refl _ _) _
  have b2 : Below w1.heap.size w1 w2 := by rw [← e2]; exact below_new (Below.refl _ _) _
  have b3 : Below w2.heap.size w2 w3 := by rw [← e3]; exact below_new (Below.refl _ _) _
  have B : BmAt w1 (some ⟨w.heap.size, 0, none⟩) 1 (fun _ => none) (fun _ => 0) (fun _ => b0) := by
    rw [← e1]
    refine ⟨by decide, fun _ => ⟨_, rfl⟩, fun x hx r hr => ?_, fun r hr => Reads.nil _ _, fun r hr _ => rfl, fun r hr => by show (Lit.int .i64 0).wf = true; decide⟩
    obtain rfl := Option.some.inj hx
    obtain rfl : r = 0 := by omega
    rw [Addr.add_add, Addr.add_add]
    exact ⟨lit_new w [.slice none 0 0, .int .i64 0, .bool false] 40 0 _ rfl, lit_new w [.slice none 0 0, .int .i64 0, .bool false] 40 1 _ rfl, lit_new w [.slice none 0 0, .int .i64 0, .bool false] 40 2 _ rfl⟩
  have r1 : Reads .i64 w2 (some ⟨w.heap.size + 1, 0, none⟩) 3 [5, 9, 9] := by
    rw [← e2, ← s1]
    exact Reads.of_row rfl (by decide) (fun z hz => by
      simp only [List.mem_cons, List.not_mem_nil, or_false] at hz
      rcases hz with rfl | rfl | rfl <;> decide) (fun i hi => by
      rcases (show i = 0 ∨ i = 1 ∨ i = 2 by omega) with rfl | rfl | rfl
      · exact lit_new w1 [.int .i64 5, .int .i64 9, .int .i64 9] 2 0 _ rfl
      · exact lit_new w1 [.int .i64 5, .int .i64 9, .int .i64 9] 2 1 _ rfl
      · exact lit_new w1 [.int .i64 5, .int .i64 9, .int .i64 9] 2 2 _ rfl)
  have G : Grid w3 (some ⟨w.heap.size + 2, 0, none⟩) 1 (fun _ => some ⟨w.heap.size + 1, 0, none⟩) (fun _ => 3) (fun _ => [5, 9, 9]) := by
    refine ⟨by decide, fun _ => ⟨_, rfl⟩, fun x hx r hr => ?_, fun r hr => r1.below b3⟩
    obtain rfl := Option.some.inj hx
    obtain rfl : r = 0 := by omega
    rw [← e3, ← s2]
    exact lit_new w2 [.slice (some ⟨w.heap.size + 1, 0, none⟩) 3 3] 46 0 _ rfl
  have k := Grow_call (some ⟨w.heap.size, 0, none⟩) 1 1 _ _ _ (some ⟨w.heap.size + 2, 0, none⟩) 1 1 _ _ _ 2 3 (-1) w3 ((B.below b2).below b3) G (Nat.le_refl _) (fun r _ => by show (3 : Nat) ≤ 1000; decide) (by decide) (fun r _ => by show (0 : Nat) ≤ 1000000; decide)
  refine k.mono ?_
  rintro e w' ⟨⟨a, b, ca, cb, Ar, Cr, he, _, _, _, _, hB, hR⟩, hb⟩
  rw [wk_L] at he hB hR
  rw [wk_E] at he
  refine ⟨⟨a, b, ca, cb, Ar, Cr, he, hB.congr (fun _ _ => rfl) (fun _ _ => rfl) (fun r hr => ?_), hR⟩, below_then (below_then (below_then b1 b2) b3) hb⟩
  rcases (show r = 0 ∨ r = 1 by have : r < 2 := hr; omega) with rfl | rfl <;> rfl

theorem wk_best : maxZ (finals LB 2 0) = 0 := max_is (b := 0) (finals_len LB 2 0) (by decide) (fun j hj hne => by
  obtain rfl : j = 1 := by omega
  rw [ahead_iff, finals_at LB 2 0 (by decide), finals_at LB 2 0 (by decide)]
  exact .inr ⟨by decide +kernel, by decide⟩)

set_option maxHeartbeats 2000000 in
theorem works_call (w : World) : Calls Try.prog 19 #[] w fun e w' => e = .returned (.bool true) ∧ Below w.heap.size w w' := by
  have kg1 := grow_works w
  have kg2 := fun W => Grow_no none 0 0 (fun _ => none) (fun _ => 0) (fun _ => b0) none 0 0 (fun _ => none) (fun _ => 0) (fun _ => []) 1 1 (-1) W (BmAt.nil_ _ _ _ _) ⟨by decide, fun h => by omega, fun x hx => (by cases hx), fun r hr => by omega⟩ (by decide +kernel)
  rw [show growE (fun _ => b0) 0 (fun _ => []) 0 1 = 21 by decide +kernel] at kg2
  have kz := fun W => Best_call none 0 0 (fun _ => none) (fun _ => 0) (fun _ => b0) 0 W (BmAt.nil_ _ _ _ _)
  rw [show maxZ (finals (fun _ => b0) 0 0) = -1 by decide +kernel] at kz
  have kf := fun a c W => final_call a 1 c (-65536) 16 false (by decide) (by decide) W
  rw [show divZ (-65536) (65536 + 4096 * min 64 (max 0 16) * min 1000 ((1 : Nat) : Int)) = -32768 by decide +kernel] at kf
  go_enter Try.func19, Try.ntmps19
  go_wp2_with (first
    | (go_at_call 10; refine kg1.mono ?_; rintro e W1 ⟨⟨a, b, ca, cb, Ar, Cr, rfl, hB, hR⟩, hb1⟩; clear kg1)
    | (go_at_call 10; refine (kg2 _).mono ?_; rintro e W2 ⟨rfl, hb2⟩
       have hB2 := hB.below hb2
       have hR2 := hR.below hb2
       have hb2' := below_then hb1 hb2
       clear kg2 hb2 hB hR)
    | (go_at_call 13; refine (From_call a 2 ca Ar Cr LB _ hB2 (by decide)).mono ?_; rintro e W3 ⟨⟨a3, c3, A3, C3, rfl, hB3, hc3, hn3⟩, hb3⟩
       have hR3 := hR2.below hb3
       have hB2' := hB2.below hb3
       have hb3' := below_then hb2' hb3
       have hL := lit_bm2 W3
       obtain ⟨W4, eW4⟩ : ∃ W4, ((W3.alloc (.cells #[.int .i64 1] 3)).alloc (.cells #[.int .i64 2] 3)).alloc (.cells #[.slice (some ⟨W3.heap.size, 0, none⟩) 1 1, .int .i64 0, .bool false, .slice (some ⟨W3.heap.size + 1, 0, none⟩) 1 1, .int .i64 0, .bool false] 42) = W4 := ⟨_, rfl⟩
       have b34 : Below W3.heap.size W3 W4 := (by rw [← eW4]; exact below_new (below_new (below_new (Below.refl _ _) _) _) _)
       rw [eW4] at hL)
    | (go_at_call 12; refine (sameB_call a3 2 c3 A3 C3 _ 2 _ _ LB W4 (hB3.below b34) hL).mono ?_; rintro e W5 ⟨rfl, m5, hw5⟩
       have hb5 := below_drew b34 ⟨m5, hw5⟩
       have hR5 := hR3.below hb5
       have hB5 := hB2'.below hb5
       have hb5' := below_then hb3' hb5
       have rl := lit2 .i64 W5 3 W5.heap.size rfl 0 0 (by decide) (by decide)
       clear hw5)
    | (go_at_call 14; refine (same_ints b 2 cb [0, 0] _ 2 2 _ (hR5.below (below_new (Below.refl _ _) _)) rl).mono ?_; rintro e W6 ⟨rfl, m6, hw6⟩
       have hb6 := below_drew (below_new (Below.refl W5.heap.size W5) _) ⟨m6, hw6⟩
       have hB6 := hB5.below hb6
       have hb6' := below_then hb5' hb6
       clear hw6)
    | (go_at_call 17; refine (Best_call a 2 ca Ar Cr LB 0 _ hB6).mono ?_; rw [wk_best]; rintro e W7 ⟨rfl, hb7⟩
       have hb7' := below_then hb6' hb7
       clear hB6)
    | (go_at_call 15; refine (kf _ _ _).mono ?_; rintro e W8 ⟨rfl, hb8⟩
       have hb8' := below_then (below_new hb7' _) hb8)
    | (go_at_call 17; refine (kz _).mono ?_; rintro e W9 ⟨rfl, hb9⟩
       have hb9' := below_then hb8' hb9))
  go_ret
  exact ⟨rfl, hb9'⟩

end Go.Proofs.Yteeljnibglnflaa
