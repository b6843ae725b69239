/- For every rows of numbers, however many and of whatever lengths, the row of means that the program's Mean answers, and its error, are the document's. -/
import Derived.Test.YtdpodanhokihlaaRows
import Derived.Test.YtdpodanhokihlaaSat
import Derived.Test.YtdpodanhokihlaaSatRef
import Derived.Test.YtdpodanhokihlaaAdds
import Derived.Test.YtdpodanhokihlaaView
import Derived.Test.YtdpodanhokihlaaOwn
import Derived.Test.YtdpodanhokihlaaSteps
import Derived.Test.YtdpodanhokihlaaWhere
import Derived.Test.YtdpodanhokihlaaSoft
import Derived.Test.YtdpodanhokihlaaMean
import Derived.Test.YtdpodanhokihlaaMeanRef
import Derived.Test.YtdpodanhokihlaaGrids
import Derived.Test.YtdpodanhokihlaaOpen
import Derived.Test.YtdpodanhokihlaaSame
import Derived.WalkKit
import Derived.ProofKit
import Derived.OpenShut
import Derived.ChangeOld
import Derived.Below
import Derived.WalkLawsBesides
import Derived.SizedLaws
namespace Go.Proofs.Ytdpodanhokihlaa.normMeans
open Go.ChangeShapes Go.WideShapes Go.ChangeAt Go.RowKit
set_option linter.unusedVariables false
set_option linter.unusedSimpArgs false

theorem own : ownKnob Try.prog.godebug = none := by kernel_rfl
theorem laidOut : laidOutB Try.prog = true := by kernel_rfl

theorem slice_oneCell (a : Option Addr) (n c : Nat) : ∀ u ∈ [Value.slice a n c], u.oneCell' = true := by
  intro u hu
  simp at hu
  subst hu
  rfl

set_option maxHeartbeats 1000000 in
theorem walk (a0 : Option Addr) (n0 c0 : Nat) (A0 : Nat → Option Addr) (C0 : Nat → Nat) (R0 : Nat → List Int) (w : World) (w0 : Grid w a0 n0 A0 C0 R0) (e0 : ∀ r, r < n0 → A0 r = none → C0 r = 0) (l0 : n0 ≤ c0) (f0 : a0 = none → c0 = 0) (b0 : n0 * 24 ≤ 140737488351232) (g0 : ∀ r, r < n0 → (R0 r).length * 8 ≤ 140737488351232) :
    Calls Try.prog 5 #[.slice a0 n0 c0] w fun e w' => e = .returned (.bool true) ∧ Below w.heap.size w w' := by
  obtain ⟨i0, hi, hz0, hz1, hz2⟩ := info_parts info2
  obtain ⟨j0, hj, hy0, hy1, hy2⟩ := info_parts info22
  have hm := w0.max
  obtain ⟨L, D, k1, k2⟩ : ∃ (L : List Int) (D : Int),
      (∀ W p q A C, Grid W p n0 A C R0 → Calls Try.prog 14 #[.slice p n0 q] W fun e w' => (∃ a m c, e = .returned (.tuple #[.slice a m c, .int .i64 D]) ∧ Reads .i64 w' a m L) ∧ Below W.heap.size W w') ∧
      (∀ W, Grid W a0 n0 A0 C0 R0 → Calls Try.prog 15 #[.slice a0 n0 c0] W fun e w' => (∃ a m c, e = .returned (.tuple #[.slice a m c, .int .i64 D]) ∧ Reads .i64 w' a m L) ∧ Below W.heap.size W w') := by
    classical
    exact ⟨if Even n0 R0 then (List.range (R0 0).length).map (meanF R0 n0) else [], if Even n0 R0 then 0 else 21, fun W p q A C h => mean_call p n0 q A C R0 W h (fun e => by have := g0 0 e.1; omega), fun W h => refMean_call a0 n0 c0 A0 C0 R0 W h (fun e => by have := g0 0 e.1; omega)⟩
  go_enter Try.func5, Try.ntmps5
  go_wp2
  go_loopw [3, 4] (fun v i wr => ∃ k : Nat, k ≤ n0 ∧ i = .int .i64 k ∧ Below w.heap.size w wr ∧ ∃ A C, OwnGrid w.heap.size wr v k A C R0) (fun _ i _ => n0 - (intOf i).toNat)
  case atStart => exact ⟨0, Nat.zero_le _, rfl, Below.refl _ _, fun _ => none, fun _ => 0, OwnGrid.nil _ _ _ _ _⟩
  case round =>
    obtain ⟨k, hk, rfl, hbr, A, C, og⟩ := hrel
    by_cases hlt : k < n0
    · have hw := w0.below hbr
      obtain ⟨x, rfl⟩ := w0.some_ (by omega)
      have cx := fun o => (w0.below (below_new hbr o)).cell x rfl k hlt
      have rk := hw.row k hlt
      have ek := e0 k hlt
      have gk := g0 k hlt
      have own := og.own
      have hsz := hbr.size
      obtain ⟨m, em⟩ : ∃ m, (R0 k).length = m := ⟨_, rfl⟩
      have Em : Hid ((R0 k).length = m) := em
      rw [em] at cx rk gk
      clear em hw k1 k2
      go_wp2_with (first
        | (at_builtin; refine wpList_copy rfl (.tmp 16) (.tmp 20) 22 rfl wr.heap.size 2 i0 (.int .i64 0) 8 Try.underlying22 hi hz0 hz1 hz2 rfl _ 0 [] rfl (World.ownsRow_lit _ #[] 0 (Nat.le_refl _) (by decide) rfl) .i64 (A0 k) m (C0 k) (R0 k) rfl (rk.below (below_new (Below.refl _ _) _)) ek (by unfold maxLen; omega) (by omega) (below_new (Below.refl _ _) _).size ?_; intro v1 W1 ho1 hg1; have loc1 := ho1.lt; obtain ⟨p1, q1, rfl, r1, hb1, -⟩ := copied (Below.refl wr.heap.size wr) _ ho1 hg1 rk; clear ho1 hg1 rk; have own1 := own_below own hb1; have hb1' := below_then hbr hb1)
        | (at_builtin; refine wpList_append_where rfl (.tmp 15) (.tmp 22) 31 rfl w.heap.size 22 j0 (.slice none 0 0) 24 Try.underlying31 hj hy0 hy1 hy2 rfl _ k _ rfl (own1.alloc _) ⟨_, 0, none⟩ 1 (.slice p1 m q1) rfl (one_new _ _ _) (slice_oneCell _ _ _) (by unfold maxLen; omega) (by omega) (below_new hb1' _).size ?_; intro v2 W2 ho2 hg2 hs2))
      go_roundw
      case rel =>
        have bn := below_new (Below.refl W1.heap.size W1) (Obj.cells #[Value.slice p1 m q1] 22)
        refine ⟨k + 1, by omega, by go_num, below_append (below_new hb1' _) (own1.alloc _) hg2, _, _, ((og.below hb1).below bn).app (p := p1) (c := q1) (by rw [Em.out]) ?_ ?_ ho2 hg2 hs2⟩
        · rw [Em.out]; exact r1.below bn
        · intro _ y hy g hg e
          have l1 := (loc1 y.block (by rw [hy]; rfl)).1
          have l2 := (og.own.lt g hg).2
          omega
      case measure => simp [intOf]; omega
    · have e : k = n0 := by omega
      subst e
      obtain ⟨p, q, rfl, gr⟩ := og.grid
      clear og hi hz0 hz1 hz2 hj hy0 hy1 hy2
      go_wp2_with (first
        | (go_at_call 14; refine (k1 _ _ _ _ _ gr).mono ?_; rintro e W3 ⟨⟨p3, m3, q3, rfl, r3⟩, hb3⟩; replace hb3 := below_then hbr hb3; clear gr)
        | (go_at_call 15; refine (k2 _ (w0.below hb3)).mono ?_; rintro e W4 ⟨⟨p4, m4, q4, rfl, r4⟩, hb4⟩; replace r3 := r3.below hb4; replace hb4 := below_then hb3 hb4)
        | (go_at_call 11; refine (same_call _ _ _ L _ _ _ _ r3 r4).mono ?_; rintro e W5 ⟨rfl, hb5⟩; replace hb5 := below_drew hb4 hb5; clear r3 r4))
      go_ret
      exact ⟨rfl, by assumption⟩

theorem contract (H : Type) (enc : TypeId × Value → H) (W : World) (base : Nat) (args : Array Value) (ds gs : List (DataW H)) (before : List MemPlace)
    (hval0 : ∀ (j : Nat) t v, Try.f5.params[j]? = some t → args[j]? = some v → Value.okWide Try.prog W .any base t v)
    (hW : DataW.Whole enc Try.prog Try.f5.params.toList Rows.normMeansSpec.vars false W args.toList ds gs before)
    (hsz0 : (DataW.weightsEach Try.prog (Try.f5.params.toList ++ Rows.normMeansSpec.plain.varTypes Try.prog) (ds ++ gs)).all (· ≤ reachBytes) = true) :
    Calls Try.prog 5 args W fun e W' => ∃ v, e = .returned v ∧ Rows.normMeansSpec.post enc Try.prog Try.f5 false true false false W args v W' := by
  have hval : ∀ (j : Nat) t v, Try.f5.params[j]? = some t → args[j]? = some v → Value.okWide Try.prog W .any base t v := hval0
  have hW' := hW
  obtain ⟨p, q, hA0, hV, rfl, hfz, hnd⟩ := hW
  have hA : DataW.TrodAll enc Try.prog W 0 (fun _ => true) true Try.f5.params.toList args.toList ds p := hA0
  have hsz : (DataW.weightsEach Try.prog (Try.f5.params.toList ++ Rows.normMeansSpec.plain.varTypes Try.prog) (ds ++ gs)).all (· ≤ reachBytes) = true := hsz0
  rw [Try.params5] at hA hval hsz
  obtain ⟨v0, vs0, d0, ds0, p0, q0, hargs, rfl, rfl, h0, r0⟩ := trodAll_cons hA
  obtain ⟨rfl, rfl, rfl⟩ := trodAll_nil r0
  obtain rfl : args = #[v0] := by cases args; simp_all
  obtain ⟨rfl, rfl⟩ := trodVars_none hV
  obtain ⟨a0, n0, c0, rfl⟩ := okWide_slice Try.underlying31 (hval 0 31 v0 rfl rfl)
  have k0 := h0
  have lt0 : ∀ x ∈ p0, x.block < W.heap.size := by obtain ⟨m, hm⟩ := k0; exact DataW.trod_lt m _ _ _ hm
  obtain ⟨A0, C0, R0, w0, e0, l0, f0, s0⟩ := open_grid h0
  obtain ⟨b0, g0⟩ := s0 _ _ 0 hsz rfl rfl
  clear hA0 hval0
  refine (walk a0 n0 c0 A0 C0 R0 W w0 e0 l0 f0 b0 g0).mono fun e W' ⟨he, bel⟩ => ?_
  subst he
  exact ⟨_, rfl, _, _, _, [], _, [], hW', trodAll_mk1 (shut_bool Try.underlying4 _), (trodAll_cons_mk (Below.trod laidOut (by kernel_rfl) (of_decide_eq_true (by kernel_rfl)) k0 bel lt0) trodAll_mk0), rfl, bel.frame _, fun h => by cases h⟩

set_option maxRecDepth 100000 in
theorem lifted (os : Os) (started : os.Started) (H : Type) (enc : TypeId × Value → H) :
    ReturnsInHanded {} Try.checked os 5 .any (Rows.normMeansSpec.pre6 enc Try.prog Try.f5 Rows.normMeansRow.domain false) (Rows.normMeansSpec.post enc Try.prog Try.f5 false true false false) := by
  refine returnsInHanded_of_change_sized (C := Try.checked) own started (by kernel_rfl) Try.func5
    (ChangeSpec.witness6 (enc := enc) (C := Try.checked) false ⟨#[], #[.slice none 0 0], []⟩ 8 (by kernel_rfl) (by kernel_rfl) (by kernel_rfl) (by kernel_rfl)) ?_
  intro W base args ds gs before hval hW _ hsz _
  exact contract H enc W base args ds gs before hval hW hsz

theorem over : Rows.normMeansRow.holds Try.pinned (OpenSpec.ofChange Rows.normMeansSpec) :=
  OpenClaim.holds_of_wide 5 Try.f5 rfl rfl rfl rfl rfl rfl rfl ⟨rfl, rfl, rfl, rfl, rfl⟩ rfl rfl rfl rfl rfl (by kernel_rfl) Try.func5 (by kernel_rfl)
    (of_decide_eq_true (by kernel_rfl)) (by unfold Func.isWrapper; first | (rw [if_pos (by decide +kernel)]; kernel_rfl) | (rw [if_neg (by decide +kernel)]; exact ⟨rfl, rfl⟩))
    (fun os started H enc _ => lifted os started H enc)

theorem proved : Rows.NormMeansSaid :=
  over
#print axioms proved
end Go.Proofs.Ytdpodanhokihlaa.normMeans
