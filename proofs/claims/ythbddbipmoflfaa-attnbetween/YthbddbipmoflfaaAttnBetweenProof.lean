/- The examples come out as they should, and for every row that looks and up to fifty keys and values, what one head answers is refused with no row, or each of its numbers lies between the least and the greatest of the values' numbers of its place, brought within 32 bits, and nought. -/
import Derived.Test.YthbddbipmoflfaaRows
import Derived.Test.YthbddbipmoflfaaView
import Derived.Test.YthbddbipmoflfaaOwn
import Derived.Test.YthbddbipmoflfaaSat
import Derived.Test.YthbddbipmoflfaaSatRef
import Derived.Test.YthbddbipmoflfaaAdds
import Derived.Test.YthbddbipmoflfaaSoft
import Derived.Test.YthbddbipmoflfaaParts
import Derived.Test.YthbddbipmoflfaaMean
import Derived.Test.YthbddbipmoflfaaOpen
import Derived.Test.YthbddbipmoflfaaAtPlain
import Derived.Test.YthbddbipmoflfaaAtFits
import Derived.Test.YthbddbipmoflfaaAtFitsNo
import Derived.Test.YthbddbipmoflfaaAtHead
import Derived.Test.YthbddbipmoflfaaAtWorks
import Derived.Test.YthbddbipmoflfaaAtBetZ
import Derived.WalkKit
import Derived.ProofKit
import Derived.OpenShut
import Derived.ChangeOld
import Derived.Below
import Derived.WalkLawsBesides
import Derived.ChangeMaps5
import Derived.SizedLaws
namespace Go.Proofs.Ythbddbipmoflfaa.attnBetween
open Go.ChangeShapes Go.WideShapes Go.ChangeAt Go.RowKit
set_option linter.unusedVariables false
set_option linter.unusedSimpArgs false

theorem own : ownKnob Try.prog.godebug = none := by kernel_rfl
theorem laidOut : laidOutB Try.prog = true := by kernel_rfl
theorem bytes2 : Try.prog.bytesOf 2 = 8 := by kernel_rfl


set_option maxHeartbeats 4000000 in
theorem walk (a0 : Option Addr) (n0 c0 : Nat) (z0 : List Int) (a1 : Option Addr) (n1 c1 : Nat) (A1 : Nat → Option Addr) (C1 : Nat → Nat) (R1 : Nat → List Int) (a2 : Option Addr) (n2 c2 : Nat) (A2 : Nat → Option Addr) (C2 : Nat → Nat) (R2 : Nat → List Int) (w : World) (w0 : Reads .i64 w a0 n0 z0) (e0 : a0 = none → c0 = 0) (l0 : n0 ≤ c0) (w1 : Grid w a1 n1 A1 C1 R1) (e1 : ∀ r, r < n1 → (A1 r = none → C1 r = 0) ∧ (R1 r).length ≤ C1 r) (l1 : n1 ≤ c1) (f1 : a1 = none → c1 = 0) (w2 : Grid w a2 n2 A2 C2 R2) (e2 : ∀ r, r < n2 → (A2 r = none → C2 r = 0) ∧ (R2 r).length ≤ C2 r) (l2 : n2 ≤ c2) (f2 : a2 = none → c2 = 0) (b0 : n0 * 8 ≤ 140737488351232) (b1 : n1 * 24 ≤ 140737488351232) (g1 : ∀ r, r < n1 → (R1 r).length * 8 ≤ 140737488351232) (b2 : n2 * 24 ≤ 140737488351232) (g2 : ∀ r, r < n2 → (R2 r).length * 8 ≤ 140737488351232) :
    Calls Try.prog 7 #[.slice a0 n0 c0, .slice a1 n1 c1, .slice a2 n2 c2] w fun e w' => e = .returned (.bool true) ∧ Below w.heap.size w w' := by
  have kw := works_call w
  have hm := w0.max
  have hm1 := w1.max
  by_cases c50 : 50 < n1
  case pos =>
    go_enter Try.func7, Try.ntmps7
    go_wp2_with (go_at_call 17; refine kw.mono ?_; rintro e W1 ⟨rfl, hb⟩; clear kw)
    go_ret
    exact ⟨rfl, hb⟩
  cases hf : fitB n0 n1 n2 R1 R2 with
  | false =>
    have kh := fun (W : World) (h1 : Grid W a1 n1 A1 C1 R1) (h2 : Grid W a2 n2 A2 C2 R2) => head_no a0 n0 c0 a1 n1 c1 A1 C1 R1 a2 n2 c2 A2 C2 R2 W h1 h2 hf
    clear hf
    go_enter Try.func7, Try.ntmps7
    go_wp2_with (first
      | (go_at_call 17; refine kw.mono ?_; rintro e W1 ⟨rfl, hb⟩; clear kw)
      | (go_at_call 9; refine (kh _ (w1.below hb) (w2.below hb)).mono ?_; rintro e w' ⟨rfl, h⟩; obtain rfl := h.symm))
    go_ret
    exact ⟨by simp, hb⟩
  | true =>
    obtain ⟨hd, hn, rfl, hr⟩ := (fitB_iff ..).1 hf
    clear hf
    have kh := fun (W : World) (h0 : Reads .i64 W a0 n0 z0) (h1 : Grid W a1 n1 A1 C1 R1) (h2 : Grid W a2 n1 A2 C2 R2) => head_yes a0 n0 c0 z0 a1 n1 c1 A1 C1 R1 a2 c2 A2 C2 R2 W h0 h1 h2 hd hn hr (by omega) (by omega)
    have hbz := fun j (h : j < n0) => head_between z0 R1 R2 n0 n1 j (by omega) h
    obtain ⟨L, eL⟩ : ∃ L, headZ z0 R1 R2 n0 n1 = L := ⟨_, rfl⟩
    simp only [eL] at kh hbz
    clear eL
    go_enter Try.func7, Try.ntmps7
    go_wp2_with (first
      | (go_at_call 17; refine kw.mono ?_; rintro e W1 ⟨rfl, hb⟩; clear kw)
      | (go_at_call 9; refine (kh _ (w0.below hb) (w1.below hb) (w2.below hb)).mono ?_; rintro e W2 ⟨⟨p2, q2, rfl, r2, -⟩, d2⟩; have hb2 := below_then hb d2; clear d2 hb kh))
    have g2 := w2.below hb2
    clear w0 w1 w2
    go_loopw [9] (fun i wr => ∃ k : Nat, k ≤ n0 ∧ i = .int .i64 k ∧ wr = W2) (fun i _ => n0 - (intOf i).toNat)
    case atStart => exact ⟨0, Nat.zero_le _, rfl, rfl⟩
    case round =>
      obtain ⟨k, hk, rfl, hw⟩ := hrel
      by_cases hlt : k < n0
      · rename World => W3
        subst hw
        go_wp2
        go_loopw [10, 11, 12] (fun lo hi i wr => ∃ l : Nat, l ≤ n1 ∧ i = .int .i64 l ∧ lo = .int .i64 (lowZ R2 k l) ∧ hi = .int .i64 (highZ R2 k l) ∧ wr = W3) (fun _ _ i _ => n1 - (intOf i).toNat)
        case atStart => exact ⟨0, Nat.zero_le _, rfl, rfl, rfl, rfl⟩
        case round =>
          obtain ⟨l, hl, rfl, rfl, rfl, hw⟩ := hrel
          subst hw
          by_cases hlt' : l < n1
          · obtain ⟨y, rfl⟩ := g2.some_ (by omega)
            have cy := g2.cell y rfl l hlt'
            have rk := g2.row l hlt'
            rw [(hr l hlt').2] at cy rk
            obtain ⟨v, ev⟩ := rk.some_ (by omega)
            have cv := rk.cell v ev k hlt
            rw [ev] at cy
            have e1 : lowZ R2 k (l + 1) = min (lowZ R2 k l) (clampZ ((R2 l).getD k 0)) := rfl
            have e2 : highZ R2 k (l + 1) = max (highZ R2 k l) (clampZ ((R2 l).getD k 0)) := rfl
            have kc := fun W => refClamp_call ((R2 l).getD k 0) W
            obtain ⟨X, eX⟩ : ∃ X, (R2 l).getD k 0 = X := ⟨_, rfl⟩
            rw [eX] at cv e1 e2
            simp only [eX] at kc
            obtain ⟨Z, eZ⟩ : ∃ Z, clampZ X = Z := ⟨_, rfl⟩
            rw [eZ] at e1 e2
            simp only [eZ] at kc
            obtain ⟨A, eA⟩ : ∃ A, lowZ R2 k l = A := ⟨_, rfl⟩
            obtain ⟨B, eB⟩ : ∃ B, highZ R2 k l = B := ⟨_, rfl⟩
            rw [eA] at e1 ⊢
            rw [eB] at e2 ⊢
            have E1 : Hid (lowZ R2 k (l + 1) = min A Z) := e1
            have E2 : Hid (highZ R2 k (l + 1) = max B Z) := e2
            clear e1 e2 eA eB eZ eX ev rk g2 r2 hbz hr
            go_wp2_with (go_at_call 18; refine (kc _).mono ?_; rintro e w' ⟨rfl, h⟩; obtain rfl := h.symm)
            all_goals
              go_roundw
              case rel => exact ⟨l + 1, by omega, by go_num, by rw [E1.out]; congr 1; omega, by rw [E2.out]; congr 1; omega, trivial⟩
              case measure => simp [intOf]; omega
          · have e : l = n1 := by omega
            subst e
            obtain ⟨x, rfl⟩ := r2.some_ (by omega)
            have cx := r2.cell x rfl k hlt
            obtain ⟨b1', b2'⟩ := hbz k hlt
            obtain ⟨X, eX⟩ : ∃ X, L.getD k 0 = X := ⟨_, rfl⟩
            rw [eX] at cx b1' b2'
            obtain ⟨A, eA⟩ : ∃ A, lowZ R2 k l = A := ⟨_, rfl⟩
            obtain ⟨B, eB⟩ : ∃ B, highZ R2 k l = B := ⟨_, rfl⟩
            rw [eA] at b1' ⊢
            rw [eB] at b2' ⊢
            clear eX eA eB hbz g2 r2 hr
            go_wp2
            go_roundw
            case rel => exact ⟨k + 1, by omega, by go_num, trivial⟩
            case measure => simp [intOf]; omega
      · have e : k = n0 := by omega
        subst e
        subst hw
        go_wp2
        go_ret
        exact ⟨rfl, hb2⟩

theorem contract (H : Type) (enc : TypeId × Value → H) (W : World) (base : Nat) (args : Array Value) (ds gs : List (DataW H)) (before : List MemPlace)
    (hval0 : ∀ (j : Nat) t v, Try.f7.params[j]? = some t → args[j]? = some v → Value.okWide Try.prog W .any base t v)
    (hW : DataW.Whole enc Try.prog Try.f7.params.toList Rows.attnBetweenSpec.vars false W args.toList ds gs before)
    (hsz0 : (DataW.weightsEach Try.prog (Try.f7.params.toList ++ Rows.attnBetweenSpec.plain.varTypes Try.prog) (ds ++ gs)).all (· ≤ reachBytes) = true) :
    Calls Try.prog 7 args W fun e W' => ∃ v, e = .returned v ∧ Rows.attnBetweenSpec.post enc Try.prog Try.f7 false true false false W args v W' := by
  have hval : ∀ (j : Nat) t v, Try.f7.params[j]? = some t → args[j]? = some v → Value.okWide Try.prog W .any base t v := hval0
  have hW' := hW
  obtain ⟨p, q, hA0, hV, rfl, hfz, hnd⟩ := hW
  have hA : DataW.TrodAll enc Try.prog W 0 (fun _ => true) true Try.f7.params.toList args.toList ds p := hA0
  have hsz : (DataW.weightsEach Try.prog (Try.f7.params.toList ++ Rows.attnBetweenSpec.plain.varTypes Try.prog) (ds ++ gs)).all (· ≤ reachBytes) = true := hsz0
  rw [Try.params7] at hA hval hsz
  obtain ⟨v0, vs0, d0, ds0, p0, q0, hargs, rfl, rfl, h0, r0⟩ := trodAll_cons hA
  obtain ⟨v1, vs1, d1, ds1, p1, q1, rfl, rfl, rfl, h1, r1⟩ := trodAll_cons r0
  obtain ⟨v2, vs2, d2, ds2, p2, q2, rfl, rfl, rfl, h2, r2⟩ := trodAll_cons r1
  obtain ⟨rfl, rfl, rfl⟩ := trodAll_nil r2
  obtain rfl : args = #[v0, v1, v2] := by cases args; simp_all
  obtain ⟨rfl, rfl⟩ := trodVars_none hV
  obtain ⟨a0, n0, c0, rfl⟩ := okWide_slice Try.underlying22 (hval 0 22 v0 rfl rfl)
  have k0 := h0
  have lt0 : ∀ x ∈ p0, x.block < W.heap.size := by obtain ⟨m, hm⟩ := k0; exact DataW.trod_lt m _ _ _ hm
  obtain ⟨z0, w0, e0, l0, s0⟩ : ∃ zs, Reads .i64 W a0 n0 zs ∧ (a0 = none → c0 = 0) ∧ n0 ≤ c0 ∧ (n0 = 0 ∨ ∃ el sp, d0 = .slice el sp ∧ n0 ≤ el.length + sp.length) := by
    obtain ⟨fuel, hf⟩ := h0
    rcases open_ints Try.underlying22 Try.underlying2 (by kernel_rfl) hf with ⟨hcs, hd⟩ | ⟨x, l, c, zs, hcs, _, hl, hm, hz, hd, hcell, hwz⟩
    · simp [Value.cells] at hcs
      obtain ⟨rfl, rfl, rfl⟩ := hcs
      exact ⟨[], Reads.nil _ _, fun _ => rfl, Nat.le_refl _, .inl rfl⟩
    · simp [Value.cells] at hcs
      obtain ⟨rfl, rfl, rfl⟩ := hcs
      exact ⟨_, Reads.of_open hl hm (by simpa using hz) hcell hwz, (fun h => by cases h), hl, .inr ⟨_, _, congrArg Prod.fst hd, open_length (by simpa using hz) hl⟩⟩
  obtain ⟨a1, n1, c1, rfl⟩ := okWide_slice Try.underlying23 (hval 1 23 v1 rfl rfl)
  have k1 := h1
  have lt1 : ∀ x ∈ p1, x.block < W.heap.size := by obtain ⟨m, hm⟩ := k1; exact DataW.trod_lt m _ _ _ hm
  obtain ⟨A1, C1, R1, w1, e1, l1, f1, s1⟩ := open_grid h1
  obtain ⟨b1, g1⟩ := s1 _ _ 1 hsz rfl rfl
  obtain ⟨a2, n2, c2, rfl⟩ := okWide_slice Try.underlying23 (hval 2 23 v2 rfl rfl)
  have k2 := h2
  have lt2 : ∀ x ∈ p2, x.block < W.heap.size := by obtain ⟨m, hm⟩ := k2; exact DataW.trod_lt m _ _ _ hm
  obtain ⟨A2, C2, R2, w2, e2, l2, f2, s2⟩ := open_grid h2
  obtain ⟨b2, g2⟩ := s2 _ _ 2 hsz rfl rfl
  have b0 : n0 * 8 ≤ 140737488351232 := by
    rcases s0 with rfl | ⟨el, sp, rfl, hle⟩
    · decide
    · have := sized_slice hsz (j := 0) (t := 22) (e := 2) rfl rfl Try.underlying22
      rw [bytes2] at this
      simp only [reachBytes] at this
      omega
  clear hA0 hval0
  refine (walk a0 n0 c0 z0 a1 n1 c1 A1 C1 R1 a2 n2 c2 A2 C2 R2 W w0 e0 l0 w1 e1 l1 f1 w2 e2 l2 f2 b0 b1 g1 b2 g2).mono fun e W' ⟨he, bel⟩ => ?_
  subst he
  exact ⟨_, rfl, _, _, _, [], _, [], hW', trodAll_mk1 (shut_bool Try.underlying4 _), (trodAll_cons_mk (Below.trod laidOut (by kernel_rfl) (of_decide_eq_true (by kernel_rfl)) k0 bel lt0) (trodAll_cons_mk (Below.trod laidOut (by kernel_rfl) (of_decide_eq_true (by kernel_rfl)) k1 bel lt1) (trodAll_cons_mk (Below.trod laidOut (by kernel_rfl) (of_decide_eq_true (by kernel_rfl)) k2 bel lt2) trodAll_mk0))), rfl, bel.frame _, fun h => by cases h⟩

set_option maxRecDepth 100000 in
theorem lifted (os : Os) (started : os.Started) (H : Type) (enc : TypeId × Value → H) :
    ReturnsInHanded {} Try.checked os 7 .any (Rows.attnBetweenSpec.pre6 enc Try.prog Try.f7 Rows.attnBetweenRow.domain false) (Rows.attnBetweenSpec.post enc Try.prog Try.f7 false true false false) := by
  refine returnsInHanded_of_change_sized (C := Try.checked) own started (by kernel_rfl) Try.func7
    (ChangeSpec.witness6 (enc := enc) (C := Try.checked) false ⟨#[], #[.slice none 0 0, .slice none 0 0, .slice none 0 0], []⟩ 8 (by kernel_rfl) (by kernel_rfl) (by kernel_rfl) (by kernel_rfl)) ?_
  intro W base args ds gs before hval hW _ hsz _
  exact contract H enc W base args ds gs before hval hW hsz

theorem over : Rows.attnBetweenRow.holds Try.pinned (OpenSpec.ofChange Rows.attnBetweenSpec) :=
  OpenClaim.holds_of_wide 7 Try.f7 rfl rfl rfl rfl rfl rfl rfl ⟨rfl, rfl, rfl, rfl, rfl⟩ rfl rfl rfl rfl rfl (by kernel_rfl) Try.func7 (by kernel_rfl)
    (of_decide_eq_true (by kernel_rfl)) (by unfold Func.isWrapper; first | (rw [if_pos (by decide +kernel)]; kernel_rfl) | (rw [if_neg (by decide +kernel)]; exact ⟨rfl, rfl⟩))
    (fun os started H enc _ => lifted os started H enc)

theorem proved : Rows.AttnBetweenSaid :=
  over
#print axioms proved
end Go.Proofs.Ythbddbipmoflfaa.attnBetween
