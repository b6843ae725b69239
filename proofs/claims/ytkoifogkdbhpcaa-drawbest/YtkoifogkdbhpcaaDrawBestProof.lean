/- For every row of scores, every k, heat and number the Go function DrawBest returns true (what is chosen is one of the k best, and the best itself where k is one or there is no heat, of up to a hundred scores) and leaves its arguments as they were; no condition. -/
import Derived.Test.YtkoifogkdbhpcaaRows
import Derived.Test.YtkoifogkdbhpcaaView
import Derived.Test.YtkoifogkdbhpcaaOwn
import Derived.Test.YtkoifogkdbhpcaaSat
import Derived.Test.YtkoifogkdbhpcaaDrZ
import Derived.Test.YtkoifogkdbhpcaaDrChoose
import Derived.Test.YtkoifogkdbhpcaaDrWorks
import Derived.Test.YtkoifogkdbhpcaaRefTop
import Derived.Test.YtkoifogkdbhpcaaRefRank
import Derived.Test.YtkoifogkdbhpcaaRank
import Derived.Test.YtkoifogkdbhpcaaRanks
import Derived.WalkKit
import Derived.ProofKit
import Derived.OpenShut
import Derived.ChangeOld
import Derived.Below
import Derived.WalkLawsBesides
import Derived.ChangeMaps5
namespace Go.Proofs.Ytkoifogkdbhpcaa.drawBest
open Go.ChangeShapes Go.WideShapes Go.ChangeAt Go.RowKit
set_option linter.unusedVariables false
set_option linter.unusedSimpArgs false

theorem own : ownKnob Try.prog.godebug = none := by kernel_rfl
theorem laidOut : laidOutB Try.prog = true := by kernel_rfl

theorem max_at (xs : List Int) (hn : 0 < xs.length) : ∃ P : Nat, maxZ xs = P ∧ P < xs.length ∧ rankTo xs xs.length P = 0 := by
  refine ⟨(places xs).getD 0 0, ?_, (places_ordered xs).lt hn, (places_ordered xs).rank hn⟩
  unfold maxZ
  rw [if_neg (by omega)]

theorem best_at (xs : List Int) (hn : 0 < xs.length) (k h u : Int) : ∃ P m : Nat, chooseZ xs k h u = P ∧ P < xs.length ∧ rankTo xs xs.length P = m ∧ (k < 1 ∨ (m : Int) < k) ∧ ((1 < k ∧ 0 < h) ∨ m = 0) := by
  by_cases hk : h < 1 ∨ k < 2
  · obtain ⟨P, e, hP, hr⟩ := max_at xs hn
    rw [choose_max hk]
    exact ⟨P, 0, e, hP, hr, by omega, .inr rfl⟩
  · have hf : Fair (shZ xs h (min k.toNat xs.length)) := soft_fair _ _
    by_cases hs : upTo (shZ xs h (min k.toNat xs.length)) (min k.toNat xs.length) = 0
    · obtain ⟨P, e, hP, hr⟩ := max_at xs hn
      rw [choose_none rfl hk hs]
      exact ⟨P, 0, e, hP, hr, by omega, .inr rfl⟩
    · have b := upTo_bounds hf (min k.toNat xs.length)
      have hl := seat_lt hf (m := min k.toNat xs.length) (r := u % upTo (shZ xs h (min k.toNat xs.length)) (min k.toNat xs.length)) (Int.emod_nonneg _ hs) (Int.emod_lt_of_pos _ (by omega))
      rw [choose_some rfl hk hs]
      exact ⟨_, _, rfl, (places_ordered xs).lt (by omega), (places_ordered xs).rank (by omega), by omega, .inl (by omega)⟩


theorem walk (a0 : Option Addr) (n0 c0 : Nat) (z0 : List Int) (a1 : Int) (a2 : Int) (a3 : Int) (w : World) (w0 : Reads .i64 w a0 n0 z0) (e0 : a0 = none → c0 = 0) (l0 : n0 ≤ c0) (w1 : (Lit.int .i64 a1).wf = true) (w2 : (Lit.int .i64 a2).wf = true) (w3 : (Lit.int .u64 a3).wf = true) :
    Calls Try.prog 5 #[.slice a0 n0 c0, .int .i64 a1, .int .i64 a2, .int .u64 a3] w fun e w' => e = .returned (.bool true) ∧ Below w.heap.size w w' := by
  have kw := works_call w
  have hl := w0.len
  by_cases h0 : n0 = 0
  · have h0' : ((n0 : Int) == 0) = true := by simp [h0]
    have h0'' : ((n0 : Int)) = 0 := by omega
    go_enter Try.func5, Try.ntmps5
    go_wp2_with (go_at_call 14; refine kw.mono ?_; rintro e w' ⟨rfl, hb⟩)
    all_goals (go_ret; exact ⟨rfl, hb⟩)
  by_cases hn : 100 < n0
  · have hn' : (100 : Int) < (n0 : Int) := by omega
    have h0' : ((n0 : Int) == 0) = false := by simp [h0]
    go_enter Try.func5, Try.ntmps5
    go_wp2_with (go_at_call 14; refine kw.mono ?_; rintro e w' ⟨rfl, hb⟩)
    all_goals (go_ret; exact ⟨rfl, hb⟩)
  obtain ⟨P, m, eP, hP, hr, hk, hz⟩ := best_at z0 (by omega) a1 a2 a3
  have kc := fun (W : World) (h : Reads .i64 W a0 n0 z0) => choose_call a0 n0 c0 z0 a1 a2 a3 W h (by omega) w2 w3
  rw [eP] at kc
  have k1 := fun (W : World) (h : Reads .i64 W a0 n0 z0) => choose_call a0 n0 c0 z0 1 a2 a3 W h (by omega) w2 w3
  rw [choose_max (.inr (by decide))] at k1
  have k2 := fun (W : World) (h : Reads .i64 W a0 n0 z0) => choose_call a0 n0 c0 z0 a1 0 a3 W h (by omega) (by decide) w3
  rw [choose_max (.inl (by decide))] at k2
  have kr := fun (W : World) (h : Reads .i64 W a0 n0 z0) => refRank_call a0 n0 c0 z0 P W h
  have er : rankZ z0 P = m := by
    unfold rankZ
    rw [if_neg (by omega), Int.toNat_natCast, hr]
  rw [er] at kr
  have km := fun (W : World) (h : Reads .i64 W a0 n0 z0) => refMax_call a0 n0 c0 z0 W h (by omega)
  obtain ⟨M, eM⟩ : ∃ M, maxZ z0 = M := ⟨_, rfl⟩
  rw [eM] at k1 k2 km
  rw [hl] at hP
  have h0' : ((n0 : Int) == 0) = false := by simp [h0]
  have hn' : ¬(100 : Int) < (n0 : Int) := by omega
  have hP0 : ¬(P : Int) < 0 := by omega
  have hP1 : ¬(n0 : Int) ≤ (P : Int) := by omega
  clear er eM eP hr hl hn h0
  by_cases hA : 1 < a1 ∧ 0 < a2
  · obtain ⟨hA1, hA2⟩ := hA
    have hmk : (m : Int) < a1 := by omega
    have hk1 : ¬a1 < 1 := by omega
    clear hk hz
    · go_enter Try.func5, Try.ntmps5
      go_wp2_with (first
        | (go_at_call 14; refine kw.mono ?_; rintro e wA ⟨rfl, hA⟩; clear kw)
        | (go_at_call 12; refine (kc _ (w0.below hA)).mono ?_; rintro e wB ⟨rfl, hB⟩; replace hB := below_then hA hB; clear kc)
        | (go_at_call 15; refine (kr _ (w0.below hB)).mono ?_; rintro e wC ⟨rfl, hC⟩; replace hC := below_then hB hC; clear kr)
        | (go_at_call 12; refine (k1 _ (w0.below hC)).mono ?_; rintro e wD ⟨rfl, hD⟩; replace hD := below_then hC hD; clear k1)
        | (go_at_call 16; refine (km _ (w0.below hF)).mono ?_; rintro e wG ⟨rfl, hG⟩; replace hG := below_then hF hG)
        | (go_at_call 16; refine (km _ (w0.below hD)).mono ?_; rintro e wE ⟨rfl, hE⟩; replace hE := below_then hD hE)
        | (go_at_call 12; refine (k2 _ (w0.below hE)).mono ?_; rintro e wF ⟨rfl, hF⟩; replace hF := below_then hE hF; clear k2))
      all_goals (go_ret; exact ⟨by simp, hG⟩)
  · have hm : m = 0 := by omega
    subst hm
    clear hz
    by_cases hk1 : a1 < 1
    · have hk2 : ¬1 < a1 := by omega
      clear hk hA
      go_enter Try.func5, Try.ntmps5
      go_wp2_with (first
        | (go_at_call 14; refine kw.mono ?_; rintro e wA ⟨rfl, hA⟩; clear kw)
        | (go_at_call 12; refine (kc _ (w0.below hA)).mono ?_; rintro e wB ⟨rfl, hB⟩; replace hB := below_then hA hB; clear kc)
        | (go_at_call 15; refine (kr _ (w0.below hB)).mono ?_; rintro e wC ⟨rfl, hC⟩; replace hC := below_then hB hC; clear kr)
        | (go_at_call 12; refine (k1 _ (w0.below hC)).mono ?_; rintro e wD ⟨rfl, hD⟩; replace hD := below_then hC hD; clear k1)
        | (go_at_call 16; refine (km _ (w0.below hF)).mono ?_; rintro e wG ⟨rfl, hG⟩; replace hG := below_then hF hG)
        | (go_at_call 16; refine (km _ (w0.below hD)).mono ?_; rintro e wE ⟨rfl, hE⟩; replace hE := below_then hD hE)
        | (go_at_call 12; refine (k2 _ (w0.below hE)).mono ?_; rintro e wF ⟨rfl, hF⟩; replace hF := below_then hE hF; clear k2))
      all_goals (go_ret; exact ⟨by simp, hG⟩)
    · have hk3 : (0 : Int) < a1 := by omega
      clear hk
      by_cases hk2 : 1 < a1
      · have hk4 : ¬0 < a2 := by omega
        clear hA
        go_enter Try.func5, Try.ntmps5
        go_wp2_with (first
          | (go_at_call 14; refine kw.mono ?_; rintro e wA ⟨rfl, hA⟩; clear kw)
          | (go_at_call 12; refine (kc _ (w0.below hA)).mono ?_; rintro e wB ⟨rfl, hB⟩; replace hB := below_then hA hB; clear kc)
          | (go_at_call 15; refine (kr _ (w0.below hB)).mono ?_; rintro e wC ⟨rfl, hC⟩; replace hC := below_then hB hC; clear kr)
          | (go_at_call 12; refine (k1 _ (w0.below hC)).mono ?_; rintro e wD ⟨rfl, hD⟩; replace hD := below_then hC hD; clear k1)
          | (go_at_call 16; refine (km _ (w0.below hF)).mono ?_; rintro e wG ⟨rfl, hG⟩; replace hG := below_then hF hG)
          | (go_at_call 16; refine (km _ (w0.below hD)).mono ?_; rintro e wE ⟨rfl, hE⟩; replace hE := below_then hD hE)
          | (go_at_call 12; refine (k2 _ (w0.below hE)).mono ?_; rintro e wF ⟨rfl, hF⟩; replace hF := below_then hE hF; clear k2))
        all_goals (go_ret; exact ⟨by simp, hG⟩)
      · clear hA
        go_enter Try.func5, Try.ntmps5
        go_wp2_with (first
          | (go_at_call 14; refine kw.mono ?_; rintro e wA ⟨rfl, hA⟩; clear kw)
          | (go_at_call 12; refine (kc _ (w0.below hA)).mono ?_; rintro e wB ⟨rfl, hB⟩; replace hB := below_then hA hB; clear kc)
          | (go_at_call 15; refine (kr _ (w0.below hB)).mono ?_; rintro e wC ⟨rfl, hC⟩; replace hC := below_then hB hC; clear kr)
          | (go_at_call 12; refine (k1 _ (w0.below hC)).mono ?_; rintro e wD ⟨rfl, hD⟩; replace hD := below_then hC hD; clear k1)
          | (go_at_call 16; refine (km _ (w0.below hF)).mono ?_; rintro e wG ⟨rfl, hG⟩; replace hG := below_then hF hG)
          | (go_at_call 16; refine (km _ (w0.below hD)).mono ?_; rintro e wE ⟨rfl, hE⟩; replace hE := below_then hD hE)
          | (go_at_call 12; refine (k2 _ (w0.below hE)).mono ?_; rintro e wF ⟨rfl, hF⟩; replace hF := below_then hE hF; clear k2))
        all_goals (go_ret; exact ⟨by simp, hG⟩)

theorem contract (H : Type) (enc : TypeId × Value → H) (W : World) (base : Nat) (args : Array Value) (ds gs : List (DataW H)) (before : List MemPlace)
    (hval0 : ∀ (j : Nat) t v, Try.f5.params[j]? = some t → args[j]? = some v → Value.okWide Try.prog W .any base t v)
    (hW : DataW.Whole enc Try.prog Try.f5.params.toList Rows.drawBestSpec.vars false W args.toList ds gs before) :
    Calls Try.prog 5 args W fun e W' => ∃ v, e = .returned v ∧ Rows.drawBestSpec.post enc Try.prog Try.f5 false true false false W args v W' := by
  have hval : ∀ (j : Nat) t v, Try.f5.params[j]? = some t → args[j]? = some v → Value.okWide Try.prog W .any base t v := hval0
  have hW' := hW
  obtain ⟨p, q, hA0, hV, rfl, hfz, hnd⟩ := hW
  have hA : DataW.TrodAll enc Try.prog W 0 (fun _ => true) true Try.f5.params.toList args.toList ds p := hA0
  rw [Try.params5] at hA hval
  obtain ⟨v0, vs0, d0, ds0, p0, q0, hargs, rfl, rfl, h0, r0⟩ := trodAll_cons hA
  obtain ⟨v1, vs1, d1, ds1, p1, q1, rfl, rfl, rfl, h1, r1⟩ := trodAll_cons r0
  obtain ⟨v2, vs2, d2, ds2, p2, q2, rfl, rfl, rfl, h2, r2⟩ := trodAll_cons r1
  obtain ⟨v3, vs3, d3, ds3, p3, q3, rfl, rfl, rfl, h3, r3⟩ := trodAll_cons r2
  obtain ⟨rfl, rfl, rfl⟩ := trodAll_nil r3
  obtain rfl : args = #[v0, v1, v2, v3] := by cases args; simp_all
  obtain ⟨rfl, rfl⟩ := trodVars_none hV
  obtain ⟨a0, n0, c0, rfl⟩ := okWide_slice Try.underlying29 (hval 0 29 v0 rfl rfl)
  have k0 := h0
  have lt0 : ∀ x ∈ p0, x.block < W.heap.size := by obtain ⟨m, hm⟩ := k0; exact DataW.trod_lt m _ _ _ hm
  obtain ⟨z0, w0, e0, l0, s0⟩ : ∃ zs, Reads .i64 W a0 n0 zs ∧ (a0 = none → c0 = 0) ∧ n0 ≤ c0 ∧ (n0 = 0 ∨ ∃ el sp, d0 = .slice el sp ∧ n0 ≤ el.length + sp.length) := by
    obtain ⟨fuel, hf⟩ := h0
    rcases open_ints Try.underlying29 Try.underlying2 (by kernel_rfl) hf with ⟨hcs, hd⟩ | ⟨x, l, c, zs, hcs, _, hl, hm, hz, hd, hcell, hwz⟩
    · simp [Value.cells] at hcs
      obtain ⟨rfl, rfl, rfl⟩ := hcs
      exact ⟨[], Reads.nil _ _, fun _ => rfl, Nat.le_refl _, .inl rfl⟩
    · simp [Value.cells] at hcs
      obtain ⟨rfl, rfl, rfl⟩ := hcs
      exact ⟨_, Reads.of_open hl hm (by simpa using hz) hcell hwz, (fun h => by cases h), hl, .inr ⟨_, _, congrArg Prod.fst hd, open_length (by simpa using hz) hl⟩⟩
  obtain ⟨a1, rfl, rfl, rfl, w1⟩ := open_int Try.underlying3 (hval 1 3 v1 rfl rfl) h1
  obtain ⟨a2, rfl, rfl, rfl, w2⟩ := open_int Try.underlying2 (hval 2 2 v2 rfl rfl) h2
  obtain ⟨a3, rfl, rfl, rfl, w3⟩ := open_int Try.underlying22 (hval 3 22 v3 rfl rfl) h3
  clear hA0 hval0
  refine (walk a0 n0 c0 z0 a1 a2 a3 W w0 e0 l0 w1 w2 w3).mono fun e W' ⟨he, bel⟩ => ?_
  subst he
  exact ⟨_, rfl, _, _, _, [], _, [], hW', trodAll_mk1 (shut_bool Try.underlying4 _), (trodAll_cons_mk (Below.trod laidOut (by kernel_rfl) (of_decide_eq_true (by kernel_rfl)) k0 bel lt0) (trodAll_cons_mk (shut_int Try.underlying3 w1) (trodAll_cons_mk (shut_int Try.underlying2 w2) (trodAll_cons_mk (shut_int Try.underlying22 w3) trodAll_mk0)))), rfl, bel.frame _, fun h => by cases h⟩

set_option maxRecDepth 100000 in
theorem lifted (os : Os) (started : os.Started) (H : Type) (enc : TypeId × Value → H) :
    ReturnsInHanded {} Try.checked os 5 .any (Rows.drawBestSpec.pre6 enc Try.prog Try.f5 Rows.drawBestRow.domain false) (Rows.drawBestSpec.post enc Try.prog Try.f5 false true false false) := by
  refine returnsInHanded_of_change (C := Try.checked) own started (by kernel_rfl) Try.func5
    (ChangeSpec.witness6 (enc := enc) (C := Try.checked) false ⟨#[], #[.slice none 0 0, .int .i64 0, .int .i64 0, .int .u64 0], []⟩ 8 (by kernel_rfl) (by kernel_rfl) (by kernel_rfl) (by kernel_rfl)) ?_
  intro W base args ds gs before hval hW _ _
  exact contract H enc W base args ds gs before hval hW

theorem over : Rows.drawBestRow.holds Try.pinned (OpenSpec.ofChange Rows.drawBestSpec) :=
  OpenClaim.holds_of_wide 5 Try.f5 rfl rfl rfl rfl rfl rfl rfl ⟨rfl, rfl, rfl, rfl, rfl⟩ rfl rfl rfl rfl rfl (by kernel_rfl) Try.func5 (by kernel_rfl)
    (of_decide_eq_true (by kernel_rfl)) (by unfold Func.isWrapper; first | (rw [if_pos (by decide +kernel)]; kernel_rfl) | (rw [if_neg (by decide +kernel)]; exact ⟨rfl, rfl⟩))
    (fun os started H enc _ => lifted os started H enc)

theorem proved : Rows.DrawBestSaid :=
  over
#print axioms proved
end Go.Proofs.Ytkoifogkdbhpcaa.drawBest
