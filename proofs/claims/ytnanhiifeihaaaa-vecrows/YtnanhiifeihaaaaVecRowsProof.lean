/- For every matrix of at most 5000 weights and every row of numbers whose length divides their count, each number of their product is the sum of products of the matrix's row alone with the numbers, without an error; for all others nothing is asked but the examples. -/
import Derived.Test.YtnanhiifeihaaaaRows
import Derived.Test.YtnanhiifeihaaaaSat
import Derived.Test.YtnanhiifeihaaaaSatRef
import Derived.Test.YtnanhiifeihaaaaAdds
import Derived.Test.YtnanhiifeihaaaaView
import Derived.Test.YtnanhiifeihaaaaOwn
import Derived.Test.YtnanhiifeihaaaaDots
import Derived.Test.YtnanhiifeihaaaaDotsRef
import Derived.Test.YtnanhiifeihaaaaScale
import Derived.Test.YtnanhiifeihaaaaFits
import Derived.Test.YtnanhiifeihaaaaMats
import Derived.Test.YtnanhiifeihaaaaWorks
import Derived.WalkKit
import Derived.ProofKit
import Derived.OpenShut
import Derived.ChangeOld
import Derived.Below
import Derived.WalkLawsBesides
namespace Go.Proofs.Ytnanhiifeihaaaa.vecRows
open Go.ChangeShapes Go.WideShapes Go.ChangeAt Go.RowKit
set_option linter.unusedVariables false
set_option linter.unusedSimpArgs false

theorem own : ownKnob Try.prog.godebug = none := by kernel_rfl
theorem laidOut : laidOutB Try.prog = true := by kernel_rfl

theorem walk_fits (a0 : Option Addr) (n0 c0 : Nat) (z0 : List Int) (a1 : Option Addr) (d c1 : Nat) (z1 : List Int) (R : Nat) (w : World) (w0 : Reads .i8 w a0 n0 z0) (l0 : n0 ≤ c0) (w1 : Reads .i64 w a1 d z1) (hd : 0 < d) (hs : n0 ≤ 5000) (hn : n0 = R * d) :
    Calls Try.prog 6 #[.slice a0 n0 c0, .slice a1 d c1] w fun e w' => e = .returned (.bool true) ∧ Below w.heap.size w w' := by
  have hm := w0.max
  have hm2 := w1.max
  have e1 : (n0 : Int) % (d : Int) = 0 := by rw [← Int.natCast_emod, hn]; simp
  have e2 : (n0 : Int) / (d : Int) = R := by rw [← Int.natCast_ediv, hn, Nat.mul_div_cancel R hd]
  have e3 : ((d : Int) == 0) = false := by simp; omega
  have hR : R ≤ n0 := by rw [hn]; exact Nat.le_mul_of_pos_right R hd
  have Hn : Hid (n0 = R * d) := hn
  obtain ⟨L, eL⟩ : ∃ L, (List.range R).map (rowZ z0 d z1) = L := ⟨_, rfl⟩
  have k1 : ∀ W, Below w.heap.size w W → Calls Try.prog 13 #[.slice a0 n0 c0, .int .i64 R, .slice a1 d c1] W fun e w' => (∃ a c, e = .returned (.tuple #[.slice a R c, .int .i64 0]) ∧ Reads .i64 w' a R L) ∧ Below w.heap.size w w' := by
    intro W hb
    rw [← eL]
    exact (mat_fits _ _ _ _ _ _ _ _ _ _ (w0.below hb) l0 (w1.below hb) hd hn (by omega)).mono fun e w' ⟨h, k⟩ => ⟨h, below_then hb k⟩
  clear hn
  go_enter Try.func6, Try.ntmps6
  go_wp2_with (first
    | (go_at_call 20; refine (works_call _).mono ?_; rintro e W1 ⟨rfl, hb1⟩)
    | (go_at_call 13; refine (k1 _ hb1).mono ?_; rintro e W2 ⟨⟨p2, q2, rfl, r2⟩, hb2⟩))
  clear e1 e2 e3 k1 hb1
  go_loopw [8] (fun i wr => ∃ k : Nat, k ≤ R ∧ i = .int .i64 k ∧ ∃ m, wr = W2.drewN m) (fun i _ => R - (intOf i).toNat)
  case atStart => exact ⟨0, Nat.zero_le _, rfl, 0, rfl⟩
  case round =>
    obtain ⟨k, hk, rfl, m, rfl⟩ := hrel
    by_cases hlt : k < R
    · obtain ⟨p, ep⟩ : ∃ p, k * d = p := ⟨_, rfl⟩
      have eq : (k + 1) * d = p + d := by rw [Nat.add_mul, ep]; omega
      have hq : p + d ≤ n0 := by rw [Hn.out, ← eq]; exact Nat.mul_le_mul_right d (by omega)
      have ip : (k : Int) * (d : Int) = (p : Int) := by rw [← ep]; simp
      have iq : ((k : Int) + 1) * (d : Int) = ((p + d : Nat) : Int) := by rw [← eq]; simp
      obtain ⟨q, eq'⟩ : ∃ q, p + d = q := ⟨_, rfl⟩
      rw [eq'] at iq
      have hr0 := (w0.below hb2).drewN m
      have hr2 := (w1.below hb2).drewN m
      obtain ⟨x, rfl⟩ := w0.some_ (by omega)
      obtain ⟨y, rfl⟩ := r2.some_ (by omega)
      have cy := r2.cell y rfl k hlt
      have hcut := hr0.cut p d hq
      have eV : rowZ z0 d z1 k = dotZ ((z0.drop p).take d) z1 6 := by unfold rowZ; rw [ep]
      have eC : L.getD k 0 = rowZ z0 d z1 k := by rw [← eL]; simp [List.getD, hlt]
      obtain ⟨V, eV'⟩ : ∃ V, dotZ ((z0.drop p).take d) z1 6 = V := ⟨_, rfl⟩
      rw [eC, eV, eV'] at cy
      have kp : Calls Try.prog 9 #[.slice (some (x.add p)) d (c0 - p), .slice a1 d c1] (W2.drewN m) fun e w' => e = .returned (.tuple #[.int .i64 V, .int .i64 0]) ∧ ∃ m', w' = (W2.drewN m).drewN m' := by
        have := dot_call _ _ (c0 - p) _ _ _ c1 _ _ hcut hr2
        rwa [if_pos rfl, if_pos rfl, eV'] at this
      have hsub : q - p = d := by omega
      have hne : ¬ c0 = p := by omega
      have hpq : (p : Int) ≤ (q : Int) := by omega
      have hqc : (q : Int) ≤ (c0 : Int) := by omega
      have hqm : (q : Int) ≤ 9223372036854775807 := by omega
      clear eq eq' ep eV eV' eC eL hr0 hr2 hcut w0 w1 r2
      go_wp2_with (go_at_call 9; refine kp.mono ?_; rintro e w' ⟨rfl, m', rfl⟩)
      go_roundw
      case rel => exact ⟨k + 1, by omega, by go_num, _, rfl⟩
      case measure => simp [intOf]; omega
    · have e : k = R := by omega
      subst e
      clear eL
      go_wp2
      go_ret
      exact ⟨rfl, below_drew hb2 ⟨_, rfl⟩⟩


theorem walk (a0 : Option Addr) (n0 c0 : Nat) (z0 : List Int) (a1 : Option Addr) (n1 c1 : Nat) (z1 : List Int) (w : World) (w0 : Reads .i8 w a0 n0 z0) (e0 : a0 = none → c0 = 0) (l0 : n0 ≤ c0) (w1 : Reads .i64 w a1 n1 z1) (e1 : a1 = none → c1 = 0) (l1 : n1 ≤ c1) :
    Calls Try.prog 6 #[.slice a0 n0 c0, .slice a1 n1 c1] w fun e w' => e = .returned (.bool true) ∧ Below w.heap.size w w' := by
  have hm := w0.max
  have hm2 := w1.max
  by_cases d0 : n1 = 0
  · subst d0
    go_enter Try.func6, Try.ntmps6
    go_wp2_with (go_at_call 20; refine (works_call _).mono ?_; rintro e W1 ⟨rfl, hb1⟩)
    go_ret
    exact ⟨rfl, hb1⟩
  have e3 : ((n1 : Int) == 0) = false := by simp; omega
  by_cases s0 : 5000 < n0
  · have s1 : (5000 : Int) < (n0 : Int) := by omega
    go_enter Try.func6, Try.ntmps6
    go_wp2_with (go_at_call 20; refine (works_call _).mono ?_; rintro e W1 ⟨rfl, hb1⟩)
    go_ret
    exact ⟨rfl, hb1⟩
  by_cases m0 : n0 % n1 = 0
  · have e : n0 = n0 / n1 * n1 := by have := Nat.div_add_mod n0 n1; rw [m0, Nat.mul_comm] at this; omega
    exact walk_fits a0 n0 c0 z0 a1 n1 c1 z1 (n0 / n1) w w0 l0 w1 (by omega) (by omega) e
  · have er : ((n0 % n1 : Nat) : Int) = (n0 : Int) % (n1 : Int) := Int.natCast_emod n0 n1
    obtain ⟨m, er'⟩ : ∃ m, (n0 : Int) % (n1 : Int) = m := ⟨_, rfl⟩
    have m0' : (m == 0) = false := by rw [er'] at er; simp; omega
    have m1 : (m != 0) = true := by simp only [bne, m0', Bool.not_false]
    have s1 : (n0 : Int) ≤ 5000 := by omega
    clear er m0 s0
    go_enter Try.func6, Try.ntmps6
    go_wp2_with (go_at_call 20; refine (works_call _).mono ?_; rintro e W1 ⟨rfl, hb1⟩)
    go_ret
    exact ⟨rfl, hb1⟩

theorem contract (H : Type) (enc : TypeId × Value → H) (W : World) (base : Nat) (args : Array Value) (ds gs : List (DataW H)) (before : List MemPlace)
    (hval0 : ∀ (j : Nat) t v, Try.f6.params[j]? = some t → args[j]? = some v → Value.okWide Try.prog W .any base t v)
    (hW : DataW.Whole enc Try.prog Try.f6.params.toList Rows.vecRowsSpec.vars false W args.toList ds gs before) :
    Calls Try.prog 6 args W fun e W' => ∃ v, e = .returned v ∧ Rows.vecRowsSpec.post enc Try.prog Try.f6 false true false false W args v W' := by
  have hval : ∀ (j : Nat) t v, Try.f6.params[j]? = some t → args[j]? = some v → Value.okWide Try.prog W .any base t v := hval0
  have hW' := hW
  obtain ⟨p, q, hA0, hV, rfl, hfz, hnd⟩ := hW
  have hA : DataW.TrodAll enc Try.prog W 0 (fun _ => true) true Try.f6.params.toList args.toList ds p := hA0
  rw [Try.params6] at hA hval
  obtain ⟨v0, vs0, d0, ds0, p0, q0, hargs, rfl, rfl, h0, r0⟩ := trodAll_cons hA
  obtain ⟨v1, vs1, d1, ds1, p1, q1, rfl, rfl, rfl, h1, r1⟩ := trodAll_cons r0
  obtain ⟨rfl, rfl, rfl⟩ := trodAll_nil r1
  obtain rfl : args = #[v0, v1] := by cases args; simp_all
  obtain ⟨rfl, rfl⟩ := trodVars_none hV
  obtain ⟨a0, n0, c0, rfl⟩ := okWide_slice Try.underlying22 (hval 0 22 v0 rfl rfl)
  have k0 := h0
  have lt0 : ∀ x ∈ p0, x.block < W.heap.size := by obtain ⟨m, hm⟩ := k0; exact DataW.trod_lt m _ _ _ hm
  obtain ⟨z0, w0, e0, l0, s0⟩ : ∃ zs, Reads .i8 W a0 n0 zs ∧ (a0 = none → c0 = 0) ∧ n0 ≤ c0 ∧ (n0 = 0 ∨ ∃ el sp, d0 = .slice el sp ∧ n0 ≤ el.length + sp.length) := by
    obtain ⟨fuel, hf⟩ := h0
    rcases open_ints Try.underlying22 Try.underlying38 (by kernel_rfl) hf with ⟨hcs, hd⟩ | ⟨x, l, c, zs, hcs, _, hl, hm, hz, hd, hcell, hwz⟩
    · simp [Value.cells] at hcs
      obtain ⟨rfl, rfl, rfl⟩ := hcs
      exact ⟨[], Reads.nil _ _, fun _ => rfl, Nat.le_refl _, .inl rfl⟩
    · simp [Value.cells] at hcs
      obtain ⟨rfl, rfl, rfl⟩ := hcs
      exact ⟨_, Reads.of_open hl hm (by simpa using hz) hcell hwz, (fun h => by cases h), hl, .inr ⟨_, _, congrArg Prod.fst hd, open_length (by simpa using hz) hl⟩⟩
  obtain ⟨a1, n1, c1, rfl⟩ := okWide_slice Try.underlying23 (hval 1 23 v1 rfl rfl)
  have k1 := h1
  have lt1 : ∀ x ∈ p1, x.block < W.heap.size := by obtain ⟨m, hm⟩ := k1; exact DataW.trod_lt m _ _ _ hm
  obtain ⟨z1, w1, e1, l1, s1⟩ : ∃ zs, Reads .i64 W a1 n1 zs ∧ (a1 = none → c1 = 0) ∧ n1 ≤ c1 ∧ (n1 = 0 ∨ ∃ el sp, d1 = .slice el sp ∧ n1 ≤ el.length + sp.length) := by
    obtain ⟨fuel, hf⟩ := h1
    rcases open_ints Try.underlying23 Try.underlying2 (by kernel_rfl) hf with ⟨hcs, hd⟩ | ⟨x, l, c, zs, hcs, _, hl, hm, hz, hd, hcell, hwz⟩
    · simp [Value.cells] at hcs
      obtain ⟨rfl, rfl, rfl⟩ := hcs
      exact ⟨[], Reads.nil _ _, fun _ => rfl, Nat.le_refl _, .inl rfl⟩
    · simp [Value.cells] at hcs
      obtain ⟨rfl, rfl, rfl⟩ := hcs
      exact ⟨_, Reads.of_open hl hm (by simpa using hz) hcell hwz, (fun h => by cases h), hl, .inr ⟨_, _, congrArg Prod.fst hd, open_length (by simpa using hz) hl⟩⟩
  clear hA0 hval0
  refine (walk a0 n0 c0 z0 a1 n1 c1 z1 W w0 e0 l0 w1 e1 l1).mono fun e W' ⟨he, bel⟩ => ?_
  subst he
  exact ⟨_, rfl, _, _, _, [], _, [], hW', trodAll_mk1 (shut_bool Try.underlying4 _), (trodAll_cons_mk (Below.trod laidOut (by kernel_rfl) (of_decide_eq_true (by kernel_rfl)) k0 bel lt0) (trodAll_cons_mk (Below.trod laidOut (by kernel_rfl) (of_decide_eq_true (by kernel_rfl)) k1 bel lt1) trodAll_mk0)), rfl, bel.frame _, fun h => by cases h⟩

set_option maxRecDepth 100000 in
theorem lifted (os : Os) (started : os.Started) (H : Type) (enc : TypeId × Value → H) :
    ReturnsInHanded {} Try.checked os 6 .any (Rows.vecRowsSpec.pre6 enc Try.prog Try.f6 Rows.vecRowsRow.domain false) (Rows.vecRowsSpec.post enc Try.prog Try.f6 false true false false) := by
  refine returnsInHanded_of_change (C := Try.checked) own started (by kernel_rfl) Try.func6
    (ChangeSpec.witness6 (enc := enc) (C := Try.checked) false ⟨#[], #[.slice none 0 0, .slice none 0 0], []⟩ 8 (by kernel_rfl) (by kernel_rfl) (by kernel_rfl) (by kernel_rfl)) ?_
  intro W base args ds gs before hval hW _ _
  exact contract H enc W base args ds gs before hval hW

theorem over : Rows.vecRowsRow.holds Try.pinned (OpenSpec.ofChange Rows.vecRowsSpec) :=
  OpenClaim.holds_of_wide 6 Try.f6 rfl rfl rfl rfl rfl rfl rfl ⟨rfl, rfl, rfl, rfl, rfl⟩ rfl rfl rfl rfl rfl (by kernel_rfl) Try.func6 (by kernel_rfl)
    (of_decide_eq_true (by kernel_rfl)) (by unfold Func.isWrapper; first | (rw [if_pos (by decide +kernel)]; kernel_rfl) | (rw [if_neg (by decide +kernel)]; exact ⟨rfl, rfl⟩))
    (fun os started H enc _ => lifted os started H enc)

theorem proved : Rows.VecRowsSaid :=
  over
#print axioms proved
end Go.Proofs.Ytnanhiifeihaaaa.vecRows
