/- The candidates of a beam that is not done, by the document: a contract of the call. -/
import Derived.Test.YteeljnibglnflaaRows
import Derived.Test.YteeljnibglnflaaView
import Derived.Test.YteeljnibglnflaaOwn
import Derived.Test.YteeljnibglnflaaWhere
import Derived.Test.YteeljnibglnflaaSteps
import Derived.Test.YteeljnibglnflaaSat
import Derived.Test.YteeljnibglnflaaSatRef
import Derived.Test.YteeljnibglnflaaRefTop
import Derived.Test.YteeljnibglnflaaBmZ
import Derived.Test.YteeljnibglnflaaBmAt
import Derived.Test.YteeljnibglnflaaBmRun
import Derived.Test.YteeljnibglnflaaBmWhole
import Derived.Test.YteeljnibglnflaaBmCand
import Derived.Test.YteeljnibglnflaaBmPre
import Derived.Test.YteeljnibglnflaaBmRefA
import Derived.WalkKit
import Derived.ProofKit
import Derived.OpenShut
import Derived.WalkLawsBesides
import Derived.Below
import Derived.Deep.QuietTactic
import Derived.BigQuiet
import Derived.Laws.AppendOwnNone
import Derived.Laws.OwnMore
import Derived.Maps.AppendAt
import Derived.Lib.MinMax
namespace Go.Proofs.Yteeljnibglnflaa
set_option maxRecDepth 20000
open Go.ChangeShapes Go.WideShapes Go.ChangeAt Go.RowKit
set_option linter.unusedVariables false
set_option linter.unusedSimpArgs false

/-- a beam with one token more -/
def moreB (T : List Int) (S : Int) (row : List Int) (len stop : Int) (i : Nat) : Bm := ⟨T ++ [(i : Int)], clampZ (clampZ S + lossZ row i), decide ((i : Int) = stop) || decide (len ≤ (T.length : Int) + 1)⟩

set_option maxHeartbeats 4000000 in
theorem refGrown_call (ta : Option Addr) (tn tc : Nat) (T : List Int) (S : Int) (F : Bool) (ra : Option Addr) (rn rc : Nat) (row : List Int) (len stop : Int) (w : World) (h0 : Reads .i64 w ta tn T) (htc : ta = none → tc = 0) (h1 : Reads .i64 w ra rn row) (hrn : rn ≤ 1000) (htn : tn ≤ 1000000) :
    Calls Try.prog 26 #[.agg #[.slice ta tn tc, .int .i64 S, .bool F], .slice ra rn rc, .int .i64 len, .int .i64 stop] w fun e w' => (∃ a c Ar Cr, e = .returned (.slice a rn c) ∧ BmAt w' a rn Ar Cr (moreB T S row len stop) ∧ (∀ x, a = some x → w.heap.size ≤ x.block) ∧ (∀ r x, r < rn → Ar r = some x → w.heap.size ≤ x.block)) ∧ Below w.heap.size w w' := by
  obtain ⟨i0, hi, hz0, hz1, hz2⟩ := info_parts info3
  have hl0 := h0.len
  have hl1 := h1.len
  obtain ⟨W0, eW0⟩ : ∃ W0, w.alloc (.cells #[.slice ta tn tc, .int .i64 S, .bool F] 42) = W0 := ⟨_, rfl⟩
  have b0 : Below w.heap.size w W0 := by rw [← eW0]; exact below_new (Below.refl _ _) _
  have HX : Hid (∀ W, Below W0.heap.size W0 W → W.cell? ⟨w.heap.size, 0, none⟩ = some (.slice ta tn tc) ∧ W.cell? ⟨w.heap.size, 1, none⟩ = some (.int .i64 S)) := show ∀ W, _ → _ from fun W hb => by
    have s0 : W0.heap.size = w.heap.size + 1 := by rw [← eW0]; simp
    have c : ∀ j, W.cell? ⟨w.heap.size, j, none⟩ = W0.cell? ⟨w.heap.size, j, none⟩ := fun j => hb.cell (by show w.heap.size < _; omega)
    rw [c, c, ← eW0]
    simp
  have H1 : Hid (Reads .i64 W0 ra rn row) := h1.below b0
  have HT : Hid (Reads .i64 W0 ta tn T) := h0.below b0
  have HW : Hid (∀ z ∈ T, (Lit.int .i64 z).wf = true) := h0.wf_mem
  have HL : Hid (row.length = rn ∧ T.length = tn) := ⟨hl1, hl0⟩
  have hm1 := h1.max
  clear h0 h1 hl0 hl1
  have TB : Hid (∀ k, -2147483648 ≤ topTo row k ∧ topTo row k ≤ 2147483647) := show ∀ k, _ from fun k => topTo_bounds row k
  go_enter Try.func26, Try.ntmps26
  go_wp2
  go_loopw [9, 10] (fun t i wr => ∃ k : Nat, k ≤ rn ∧ i = .int .i64 k ∧ t = .int .i64 (topTo row k) ∧ wr = W0) (fun _ i _ => rn - (intOf i).toNat)
  case atStart => exact ⟨0, Nat.zero_le _, rfl, rfl, rfl⟩
  case round =>
    obtain ⟨k, hk, rfl, rfl, hw0⟩ := hrel
    obtain rfl := hw0.symm
    by_cases hlt : k < rn
    · obtain ⟨x, hx⟩ := H1.out.some_ (by omega)
      subst hx
      have cr := H1.out.cell x rfl k hlt
      have HS : Hid (topTo row (k + 1) = max (topTo row k) (clampZ (row.getD k 0))) := show _ = _ from rfl
      have kc0 := fun W => refClamp_call (row.getD k 0) W
      obtain ⟨X, eX⟩ : ∃ X, row.getD k 0 = X := ⟨_, rfl⟩
      rw [eX] at cr HS kc0
      obtain ⟨CX, eCX⟩ : ∃ X, clampZ X = X := ⟨0, by decide⟩
      clear eCX CX
      obtain ⟨CX, eCX⟩ : ∃ Y, clampZ X = Y := ⟨_, rfl⟩
      rw [eCX] at HS kc0
      obtain ⟨TP, eTP⟩ : ∃ Y, topTo row k = Y := ⟨_, rfl⟩
      rw [eTP] at HS ⊢
      obtain ⟨MX, eMX⟩ : ∃ Y, max TP CX = Y := ⟨_, rfl⟩
      rw [eMX] at HS
      clear eX eCX eTP
      go_wp2_with (go_at_call 37; refine (kc0 _).mono ?_; rintro e w' ⟨rfl, h⟩; obtain rfl := h.symm)
      go_roundw
      case rel => exact ⟨k + 1, by omega, by go_num, by rw [HS.out], by first | rfl | trivial⟩
      case measure => simp [intOf]; omega
    · obtain rfl : k = rn := by omega
      have TB2 := TB.out k
      obtain ⟨TP, eTP⟩ : ∃ Y, topTo row k = Y := ⟨_, rfl⟩
      rw [eTP] at TB2 ⊢
      have HTP : Hid (topC row = TP) := by show topTo row row.length = TP; rw [HL.out.1]; exact eTP
      obtain ⟨tb1, tb2⟩ := TB2
      clear eTP TB hk
      go_wp2
      go_loopw [11, 12] (fun v i wr => ∃ (j : Nat) (va : Option Addr) (vc : Nat), j ≤ k ∧ i = .int .i64 j ∧ v = .slice va j vc ∧ Below W0.heap.size W0 wr ∧ ∃ Ar Cr, Hid (OwnBm W0.heap.size wr 42 v j Ar Cr (moreB T S row len stop)) ∧ Hid (∀ r x, r < j → Ar r = some x → W0.heap.size ≤ x.block)) (fun _ i _ => k - (intOf i).toNat)
      case atStart => exact ⟨0, none, 0, Nat.zero_le _, rfl, rfl, Below.refl _ _, (fun _ => none), (fun _ => 0), OwnBm.start _ _ _ _ _ _, fun r x hr => by omega⟩
      case round =>
        obtain ⟨N, eN⟩ : ∃ N, k = N := ⟨_, rfl⟩
        subst eN
        obtain ⟨j, va, vc, hj, rfl, rfl, hbr, Ar, Cr, HO, HFr⟩ := hrel
        by_cases hlt2 : j < k
        · obtain ⟨x, hx⟩ := H1.out.some_ (by omega)
          subst hx
          have cr := (H1.out.below hbr).cell x rfl j hlt2
          have hos := hbr.size
          have FIN : Hid (∀ W v, W.ownsRow wr.heap.size 3 1 v (tn + 1) (T.map (Value.int .i64) ++ [.int .i64 (j : Nat)]) → ∃ a c, v = .slice a (tn + 1) c ∧ Reads .i64 W a (tn + 1) (T ++ [(j : Int)]) ∧ (a = none → c = 0) ∧ ∀ x, a = some x → wr.heap.size ≤ x.block) := show ∀ W v, _ → _ from fun W v ho => by
            obtain ⟨a, c, rfl, rd⟩ := own_reads (k := .i64) (zs := T ++ [(j : Int)]) ho (by simp [HL.out.2]) (fun z hz => by
              rcases List.mem_append.1 hz with h | h
              · exact HW.out z h
              · rw [List.mem_singleton.1 h]; exact WalkArith.wf_i64 ⟨by omega, by omega⟩) (fun i hi => by
              rw [← List.map_singleton, ← List.map_append]
              exact copy_at .i64 _ i (by simp [HL.out.2]; omega))
            exact ⟨a, c, rfl, rd, own_none ho, fun x hx => by subst hx; exact (ho.lt x.block rfl).1⟩
          obtain ⟨N1, eN1⟩ : ∃ N1, tn + 1 = N1 := ⟨_, rfl⟩
          rw [eN1] at FIN
          have HTN : Hid ((T ++ [(j : Int)]).length = N1) := by show (T ++ [(j : Int)]).length = N1; rw [List.length_append, HL.out.2]; exact eN1
          have hN1 : N1 ≤ 1000001 := by omega
          have HN1 : Hid (tn + 1 = N1) := eN1
          have HE : Hid ((T.length : Int) + 1 = (N1 : Int)) := by show (T.length : Int) + 1 = _; have := HL.out.2; omega
          have kc0 := fun W => refClamp_call (row.getD j 0) W
          have kc1 := fun W => refClamp_call (clampZ (row.getD j 0) - TP) W
          have kc2 := fun W => refClamp_call S W
          have kc3 := fun W => refClamp_call (clampZ S + lossZ row j) W
          have HLS : Hid (clampZ (clampZ (row.getD j 0) - TP) = lossZ row j) := by show _ = _; unfold lossZ; rw [HTP.out]
          rw [HLS.out] at kc1
          have cb0 := clampZ_bounds (row.getD j 0)
          have cb1 := clampZ_bounds S
          have cb2 := lossZ_bounds row j
          have cb3 := clampZ_bounds (clampZ S + lossZ row j)
          have HV : Hid (moreB T S row len stop j = ⟨T ++ [(j : Int)], clampZ (clampZ S + lossZ row j), decide ((j : Int) = stop) || decide (len ≤ (N1 : Int))⟩) := by show _ = _; rw [← HE.out]; rfl
          obtain ⟨CX, eCX⟩ : ∃ Y, clampZ (row.getD j 0) = Y := ⟨_, rfl⟩
          rw [eCX] at kc0 kc1 cb0
          obtain ⟨X, eX⟩ : ∃ Y, row.getD j 0 = Y := ⟨_, rfl⟩
          rw [eX] at kc0 cr
          obtain ⟨B0, eB0⟩ : ∃ Y, clampZ S = Y := ⟨_, rfl⟩
          rw [eB0] at kc2 kc3 cb1 cb3 HV
          obtain ⟨F0, eF0⟩ : ∃ Y, lossZ row j = Y := ⟨_, rfl⟩
          rw [eF0] at kc1 kc3 cb2 cb3 HV
          obtain ⟨V0, eV0⟩ : ∃ Y, clampZ (B0 + F0) = Y := ⟨_, rfl⟩
          rw [eV0] at kc3 cb3 HV
          obtain ⟨ca1, ca2⟩ := cb0
          obtain ⟨ca3, ca4⟩ := cb1
          obtain ⟨ca5, ca6⟩ := cb2
          have wv : (Lit.int .i64 V0).wf = true := WalkArith.wf_i64 ⟨by omega, by omega⟩
          clear eCX eX eB0 eF0 eV0 cb3 HLS eN1
          have own1 : (wr.alloc (.cells #[] 3)).ownsRow wr.heap.size 3 1 (.slice (some ⟨wr.heap.size, 0, none⟩) 0 0) 0 [] := World.ownsRow_lit wr #[] 0 (Nat.le_refl _) (by decide) rfl
          have rt1 := (HT.out.below hbr).below (below_new (Below.refl _ _) (.cells #[] 3))
          obtain ⟨bx0, bx1⟩ := HX.out (wr.alloc (.cells #[] 3)) (below_new hbr _)
          by_cases hst : (j : Int) = stop
          · have hst' : ((j : Int) == stop) = true := by simp [hst]
            have HM : Hid (moreB T S row len stop j = ⟨T ++ [(j : Int)], V0, true⟩) := by show _ = _; rw [HV.out]; simp [hst]
            clear hst HV
            go_wp2_with (first
              | (at_builtin; refine wpList_copy rfl (.tmp 42) (.tmp 44) 29 rfl wr.heap.size 3 i0 (.int .i64 0) 8 Try.underlying29 hi hz0 hz1 hz2 rfl _ 0 [] rfl own1 .i64 ta tn tc T rfl rt1 htc (by unfold maxLen; omega) (by omega) (by simp) ?_; intro v2 w2 ho2 hg2
                 have hb2 : Below wr.heap.size wr w2 := copied_from (Below.refl _ _) _ ho2 hg2
                 obtain ⟨bx0, bx1⟩ := HX.out w2 (below_then hbr hb2)
                 clear hg2 own1)
              | (at_builtin; refine wpList_append_own _ rfl (.tmp 45) (.tmp 47) 29 rfl wr.heap.size 3 i0 (.int .i64 0) 1 8 Try.underlying29 hi hz0 hz1 hz2 rfl (by decide) _ _ _ rfl (ho2.alloc _) ⟨_, 0, none⟩ 1 1 [.int .i64 (j : Nat)] rfl rfl (one_new _ _ _) (one_oneCell _ _) (by unfold maxLen; omega) (by omega) (by have := hb2.size; simp; omega) ?_; intro v3 w3 ho3 hg3 _
                 have hb3 : Below wr.heap.size wr w3 := (hb2.alloc hb2.size _).grown hg3 (by have := hb2.size; simp; omega) (fun g h => (ho2.lt g h).1)
                 obtain ⟨bx0, bx1⟩ := HX.out w3 (below_then hbr hb3)
                 obtain ⟨a3, c3, ev, rd3, hn3, hf3⟩ := FIN.out w3 v3 (by rw [← HN1.out]; simpa using ho3)
                 subst ev
                 have HO3 := HO.out.below hb3
                 clear ho3 hg3 ho2)
              | (go_at_call 37; refine (kc0 _).mono ?_; rintro e w' ⟨rfl, h⟩; obtain rfl := h.symm; clear kc0)
              | (go_at_call 37; refine (kc1 _).mono ?_; rintro e w' ⟨rfl, h⟩; obtain rfl := h.symm; clear kc1)
              | (go_at_call 37; refine (kc2 _).mono ?_; rintro e w' ⟨rfl, h⟩; obtain rfl := h.symm; clear kc2)
              | (go_at_call 37; refine (kc3 _).mono ?_; rintro e w' ⟨rfl, h⟩; obtain rfl := h.symm; clear kc3)
              | (at_builtin; refine wpList_bmpush rfl (.tmp 49) (.tmp 67) 22 rfl _ j HO3 Try.underlying22 info42 (by have := hb3.size; omega) (by omega) a3 c3 N1 V0 true (by rw [HM.out]; exact HTN.out) (by rw [HM.out]) (by rw [HM.out]) rfl rfl (by rw [HM.out]; rw [HTN.out]; exact rd3) (fun _ x hx g hg => by
                   have h1 := (HO.out.own.lt g hg).2
                   have h2 := hf3 x hx
                   omega) hn3 (by rw [HM.out]; exact wv) ?_; intro v5 w5 ho5 hg5 hs5))
            have hb5 : Below W0.heap.size W0 w5 := ((below_then hbr hb3).alloc (by have := hb3.size; omega) _).grown hg5 (by have := hb3.size; simp; omega) (fun g h => (HO.out.own.lt g h).1)
            obtain ⟨va5, vc5, ev5, -, -, -⟩ := ho5.at_
            subst ev5
            have HO5 : Hid _ := ho5
            have HF5 : Hid (∀ r x, r < j + 1 → (if r = j then a3 else Ar r) = some x → W0.heap.size ≤ x.block) := show ∀ r x, _ → _ → _ from fun r x hr hx => by
              by_cases e : r = j
              · rw [if_pos e] at hx
                have := hf3 x hx
                omega
              · rw [if_neg e] at hx
                exact HFr.out r x (by omega) hx
            clear ho5 hg5 hs5 HO3 rd3 hn3 hf3
            go_roundw
            case rel => exact ⟨j + 1, va5, vc5, by omega, by go_num, rfl, hb5, _, _, HO5, HF5⟩
            case measure => simp [intOf]; omega
          · have hst' : ((j : Int) == stop) = false := by simp [hst]
            by_cases hle : len ≤ (N1 : Int)
            · have HM : Hid (moreB T S row len stop j = ⟨T ++ [(j : Int)], V0, true⟩) := by show _ = _; rw [HV.out]; simp [hle]
              clear hst HV
              go_wp2_with (first
                | (at_builtin; refine wpList_copy rfl (.tmp 42) (.tmp 44) 29 rfl wr.heap.size 3 i0 (.int .i64 0) 8 Try.underlying29 hi hz0 hz1 hz2 rfl _ 0 [] rfl own1 .i64 ta tn tc T rfl rt1 htc (by unfold maxLen; omega) (by omega) (by simp) ?_; intro v2 w2 ho2 hg2
                   have hb2 : Below wr.heap.size wr w2 := copied_from (Below.refl _ _) _ ho2 hg2
                   obtain ⟨bx0, bx1⟩ := HX.out w2 (below_then hbr hb2)
                   clear hg2 own1)
                | (at_builtin; refine wpList_append_own _ rfl (.tmp 45) (.tmp 47) 29 rfl wr.heap.size 3 i0 (.int .i64 0) 1 8 Try.underlying29 hi hz0 hz1 hz2 rfl (by decide) _ _ _ rfl (ho2.alloc _) ⟨_, 0, none⟩ 1 1 [.int .i64 (j : Nat)] rfl rfl (one_new _ _ _) (one_oneCell _ _) (by unfold maxLen; omega) (by omega) (by have := hb2.size; simp; omega) ?_; intro v3 w3 ho3 hg3 _
                   have hb3 : Below wr.heap.size wr w3 := (hb2.alloc hb2.size _).grown hg3 (by have := hb2.size; simp; omega) (fun g h => (ho2.lt g h).1)
                   obtain ⟨bx0, bx1⟩ := HX.out w3 (below_then hbr hb3)
                   obtain ⟨a3, c3, ev, rd3, hn3, hf3⟩ := FIN.out w3 v3 (by rw [← HN1.out]; simpa using ho3)
                   subst ev
                   have HO3 := HO.out.below hb3
                   clear ho3 hg3 ho2)
                | (go_at_call 37; refine (kc0 _).mono ?_; rintro e w' ⟨rfl, h⟩; obtain rfl := h.symm; clear kc0)
                | (go_at_call 37; refine (kc1 _).mono ?_; rintro e w' ⟨rfl, h⟩; obtain rfl := h.symm; clear kc1)
                | (go_at_call 37; refine (kc2 _).mono ?_; rintro e w' ⟨rfl, h⟩; obtain rfl := h.symm; clear kc2)
                | (go_at_call 37; refine (kc3 _).mono ?_; rintro e w' ⟨rfl, h⟩; obtain rfl := h.symm; clear kc3)
                | (at_builtin; refine wpList_bmpush rfl (.tmp 49) (.tmp 67) 22 rfl _ j HO3 Try.underlying22 info42 (by have := hb3.size; omega) (by omega) a3 c3 N1 V0 true (by rw [HM.out]; exact HTN.out) (by rw [HM.out]) (by rw [HM.out]) rfl rfl (by rw [HM.out]; rw [HTN.out]; exact rd3) (fun _ x hx g hg => by
                     have h1 := (HO.out.own.lt g hg).2
                     have h2 := hf3 x hx
                     omega) hn3 (by rw [HM.out]; exact wv) ?_; intro v5 w5 ho5 hg5 hs5))
              have hb5 : Below W0.heap.size W0 w5 := ((below_then hbr hb3).alloc (by have := hb3.size; omega) _).grown hg5 (by have := hb3.size; simp; omega) (fun g h => (HO.out.own.lt g h).1)
              obtain ⟨va5, vc5, ev5, -, -, -⟩ := ho5.at_
              subst ev5
              have HO5 : Hid _ := ho5
              have HF5 : Hid (∀ r x, r < j + 1 → (if r = j then a3 else Ar r) = some x → W0.heap.size ≤ x.block) := show ∀ r x, _ → _ → _ from fun r x hr hx => by
                by_cases e : r = j
                · rw [if_pos e] at hx
                  have := hf3 x hx
                  omega
                · rw [if_neg e] at hx
                  exact HFr.out r x (by omega) hx
              clear ho5 hg5 hs5 HO3 rd3 hn3 hf3
              go_roundw
              case rel => exact ⟨j + 1, va5, vc5, by omega, by go_num, rfl, hb5, _, _, HO5, HF5⟩
              case measure => simp [intOf]; omega
            · have HM : Hid (moreB T S row len stop j = ⟨T ++ [(j : Int)], V0, false⟩) := by show _ = _; rw [HV.out]; simp [hst, hle]
              have hle' : decide (len ≤ (N1 : Int)) = false := by simp [hle]
              clear hst HV
              go_wp2_with (first
                | (at_builtin; refine wpList_copy rfl (.tmp 42) (.tmp 44) 29 rfl wr.heap.size 3 i0 (.int .i64 0) 8 Try.underlying29 hi hz0 hz1 hz2 rfl _ 0 [] rfl own1 .i64 ta tn tc T rfl rt1 htc (by unfold maxLen; omega) (by omega) (by simp) ?_; intro v2 w2 ho2 hg2
                   have hb2 : Below wr.heap.size wr w2 := copied_from (Below.refl _ _) _ ho2 hg2
                   obtain ⟨bx0, bx1⟩ := HX.out w2 (below_then hbr hb2)
                   clear hg2 own1)
                | (at_builtin; refine wpList_append_own _ rfl (.tmp 45) (.tmp 47) 29 rfl wr.heap.size 3 i0 (.int .i64 0) 1 8 Try.underlying29 hi hz0 hz1 hz2 rfl (by decide) _ _ _ rfl (ho2.alloc _) ⟨_, 0, none⟩ 1 1 [.int .i64 (j : Nat)] rfl rfl (one_new _ _ _) (one_oneCell _ _) (by unfold maxLen; omega) (by omega) (by have := hb2.size; simp; omega) ?_; intro v3 w3 ho3 hg3 _
                   have hb3 : Below wr.heap.size wr w3 := (hb2.alloc hb2.size _).grown hg3 (by have := hb2.size; simp; omega) (fun g h => (ho2.lt g h).1)
                   obtain ⟨bx0, bx1⟩ := HX.out w3 (below_then hbr hb3)
                   obtain ⟨a3, c3, ev, rd3, hn3, hf3⟩ := FIN.out w3 v3 (by rw [← HN1.out]; simpa using ho3)
                   subst ev
                   have HO3 := HO.out.below hb3
                   clear ho3 hg3 ho2)
                | (go_at_call 37; refine (kc0 _).mono ?_; rintro e w' ⟨rfl, h⟩; obtain rfl := h.symm; clear kc0)
                | (go_at_call 37; refine (kc1 _).mono ?_; rintro e w' ⟨rfl, h⟩; obtain rfl := h.symm; clear kc1)
                | (go_at_call 37; refine (kc2 _).mono ?_; rintro e w' ⟨rfl, h⟩; obtain rfl := h.symm; clear kc2)
                | (go_at_call 37; refine (kc3 _).mono ?_; rintro e w' ⟨rfl, h⟩; obtain rfl := h.symm; clear kc3)
                | (at_builtin; refine wpList_bmpush rfl (.tmp 49) (.tmp 67) 22 rfl _ j HO3 Try.underlying22 info42 (by have := hb3.size; omega) (by omega) a3 c3 N1 V0 false (by rw [HM.out]; exact HTN.out) (by rw [HM.out]) (by rw [HM.out]) rfl rfl (by rw [HM.out]; rw [HTN.out]; exact rd3) (fun _ x hx g hg => by
                     have h1 := (HO.out.own.lt g hg).2
                     have h2 := hf3 x hx
                     omega) hn3 (by rw [HM.out]; exact wv) ?_; intro v5 w5 ho5 hg5 hs5))
              have hb5 : Below W0.heap.size W0 w5 := ((below_then hbr hb3).alloc (by have := hb3.size; omega) _).grown hg5 (by have := hb3.size; simp; omega) (fun g h => (HO.out.own.lt g h).1)
              obtain ⟨va5, vc5, ev5, -, -, -⟩ := ho5.at_
              subst ev5
              have HO5 : Hid _ := ho5
              have HF5 : Hid (∀ r x, r < j + 1 → (if r = j then a3 else Ar r) = some x → W0.heap.size ≤ x.block) := show ∀ r x, _ → _ → _ from fun r x hr hx => by
                by_cases e : r = j
                · rw [if_pos e] at hx
                  have := hf3 x hx
                  omega
                · rw [if_neg e] at hx
                  exact HFr.out r x (by omega) hx
              clear ho5 hg5 hs5 HO3 rd3 hn3 hf3
              go_roundw
              case rel => exact ⟨j + 1, va5, vc5, by omega, by go_num, rfl, hb5, _, _, HO5, HF5⟩
              case measure => simp [intOf]; omega
        · obtain rfl : j = k := by omega
          obtain ⟨a', c', ev, hB, hnone, hc⟩ := HO.out.at_
          simp only [Value.slice.injEq, true_and] at ev
          obtain ⟨rfl, rfl⟩ := ev
          have hs0 := b0.size
          have hfa : ∀ x, va = some x → w.heap.size ≤ x.block := fun x hx => by
            subst hx
            have := (HO.out.own.lt x.block rfl).1
            omega
          go_wp2
          go_ret
          exact ⟨⟨_, _, _, _, rfl, hB, hfa, fun r x hr hx => by have := HFr.out r x hr hx; omega⟩, below_then b0 hbr⟩

end Go.Proofs.Yteeljnibglnflaa
