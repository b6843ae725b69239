/- The examples come out as they should, and for every two rows of the same even number of at most 500 members, not empty, and any place below 1000: two heads made of both, one behind the other, are turned without an error, the first part as the first row by itself, the second as the second by itself. -/
import Derived.Test.YtjbjclphomeafaaRows
import Derived.Test.YtjbjclphomeafaaSat
import Derived.Test.YtjbjclphomeafaaView
import Derived.Test.YtjbjclphomeafaaOwn
import Derived.Test.YtjbjclphomeafaaSteps
import Derived.Test.YtjbjclphomeafaaWhere
import Derived.Test.YtjbjclphomeafaaSame
import Derived.Test.YtjbjclphomeafaaWorks
import Derived.Test.YtjbjclphomeafaaTabs
import Derived.Test.YtjbjclphomeafaaPair
import Derived.Test.YtjbjclphomeafaaTurn
import Derived.Test.YtjbjclphomeafaaTurns
import Derived.Test.YtjbjclphomeafaaHeads
import Derived.Test.YtjbjclphomeafaaLooks
import Derived.WalkKit
import Derived.ProofKit
import Derived.OpenShut
import Derived.ChangeOld
import Derived.Below
import Derived.WalkLawsBesides
namespace Go.Proofs.Ytjbjclphomeafaa.turnApart
open Go.ChangeShapes Go.WideShapes Go.ChangeAt Go.RowKit
set_option linter.unusedVariables false
set_option linter.unusedSimpArgs false

theorem own : ownKnob Try.prog.godebug = none := by kernel_rfl
theorem laidOut : laidOutB Try.prog = true := by kernel_rfl

theorem rest_of (x k : Int) (hk : 0 < k) : ∃ M : Int, 0 ≤ M ∧ M < k ∧ (IntKind.u64.wrap x).tmod k = M ∧ IntKind.u64.wrap x % k = M := by
  have b : 0 ≤ IntKind.u64.wrap x := by rw [IntKind.wrap_u64]; omega
  generalize IntKind.u64.wrap x = U at *
  exact ⟨U % k, Int.emod_nonneg _ (by omega), Int.emod_lt_of_pos _ hk, by rw [Int.tmod_eq_emod_of_nonneg b], rfl⟩

theorem two_heads (z y : List Int) (p : Int) (n : Nat) (hz : z.length = n) (hy : y.length = n) : headsL (z ++ y) p n 2 = turnZ z p n ++ turnZ y p n := by
  show ([] ++ turnZ (((z ++ y).drop (0 * n)).take n) p n) ++ turnZ (((z ++ y).drop (1 * n)).take n) p n = _
  rw [Nat.zero_mul, Nat.one_mul, List.drop_zero, List.nil_append]
  have e1 : (z ++ y).take n = z := by rw [← hz]; simp
  have e2 : ((z ++ y).drop n).take n = y := by rw [← hz, List.drop_left, hz, ← hy]; simp
  rw [e1, e2]

/-- a row made of two, taken apart again -/
theorem reads_apart {w : World} {x : Addr} {n : Nat} {a b : List Int} (h : Reads .i64 w (some x) (n + n) (a ++ b)) (ha : a.length = n) (hb : b.length = n) : Reads .i64 w (some x) n a ∧ Reads .i64 w (some (x.add n)) n b := by
  have h1 := h.cut 0 n (by omega)
  have h2 := h.cut n n (by omega)
  rw [List.drop_zero, Addr.add_zero'] at h1
  have e1 : (a ++ b).take n = a := by rw [← ha]; simp
  have e2 : ((a ++ b).drop n).take n = b := by rw [← ha, List.drop_left, ha, ← hb]; simp
  rw [e1] at h1
  rw [e2] at h2
  exact ⟨h1, h2⟩

/-- two rows, copied one behind the other -/
theorem joined {w W2 W3 : World} {n : Nat} {z0 z1 : List Int} {v2 v3 : Value} {wz : World} {a0 a1 : Option Addr} (hb2 : Below w.heap.size w W2) (ho2 : W2.ownsRow w.heap.size 2 1 v2 (0 + n) ([] ++ z0.map (Value.int .i64)))
    (ho3 : W3.ownsRow w.heap.size 2 1 v3 (0 + n + n) (([] ++ z0.map (Value.int .i64)) ++ z1.map (Value.int .i64))) (hg3 : W2.grownBy W3 v2.ownBlock) (h0 : Reads .i64 wz a0 n z0) (h1 : Reads .i64 wz a1 n z1) (hn : 0 < n) :
    ∃ x c, v3 = .slice (some x) (n + n) c ∧ Reads .i64 W3 (some x) (n + n) (z0 ++ z1) ∧ n + n ≤ c ∧ Below w.heap.size w W3 := by
  rw [Nat.zero_add, List.nil_append, ← List.map_append] at ho3
  have hl : (z0 ++ z1).length = n + n := by rw [List.length_append, h0.len, h1.len]
  obtain ⟨a, c, rfl, r⟩ := own_reads ho3 hl (fun z hz => by rcases List.mem_append.1 hz with h | h; exact h0.wf_mem z h; exact h1.wf_mem z h) (fun j hj => copy_at _ _ _ (by rw [hl]; exact hj))
  have hc := own_cap ho3
  obtain ⟨x, rfl⟩ := r.some_ (by omega)
  exact ⟨x, c, rfl, r, hc, below_append hb2 ho2 hg3⟩


set_option maxHeartbeats 2000000 in
theorem walk (a0 : Option Addr) (n0 c0 : Nat) (z0 : List Int) (a1 : Option Addr) (n1 c1 : Nat) (z1 : List Int) (a2 : Int) (w : World) (w0 : Reads .i64 w a0 n0 z0) (e0 : a0 = none → c0 = 0) (l0 : n0 ≤ c0) (w1 : Reads .i64 w a1 n1 z1) (e1 : a1 = none → c1 = 0) (l1 : n1 ≤ c1) (w2 : (Lit.int .i64 a2).wf = true) :
    Calls Try.prog 6 #[.slice a0 n0 c0, .slice a1 n1 c1, .int .i64 a2] w fun e w' => e = .returned (.bool true) ∧ Below w.heap.size w w' := by
  obtain ⟨i0, hi, hz0, hz1, hz2⟩ := info_parts info2
  have hm := w0.max
  have hm1 := w1.max
  by_cases h0 : n0 = n1
  case neg =>
    have h0' : ((n0 : Int) == (n1 : Int)) = false := by simp; omega
    go_enter Try.func6, Try.ntmps6
    go_wp2_with (go_at_call 13; refine (works_call _).mono ?_; rintro e W1 ⟨rfl, hb1⟩)
    go_ret
    exact ⟨rfl, hb1⟩
  subst h0
  by_cases h1 : n0 % 2 = 1
  · have ev : ((n0 : Int) % 2 == 0) = false := by simp; omega
    go_enter Try.func6, Try.ntmps6
    go_wp2_with (go_at_call 13; refine (works_call _).mono ?_; rintro e W1 ⟨rfl, hb1⟩)
    go_ret
    exact ⟨rfl, hb1⟩
  have ev : (n0 : Int) % 2 = 0 := by omega
  by_cases h2 : 500 < n0
  · have h3 : (500 : Int) < (n0 : Int) := by omega
    go_enter Try.func6, Try.ntmps6
    go_wp2_with (go_at_call 13; refine (works_call _).mono ?_; rintro e W1 ⟨rfl, hb1⟩)
    go_ret
    exact ⟨rfl, hb1⟩
  have hn' : (n0 : Int) ≤ 500 := by omega
  by_cases h4 : n0 = 0
  · subst h4
    go_enter Try.func6, Try.ntmps6
    go_wp2_with (go_at_call 13; refine (works_call _).mono ?_; rintro e W1 ⟨rfl, hb1⟩)
    go_ret
    exact ⟨rfl, hb1⟩
  have nz : ((n0 : Int) == 0) = false := by simp; omega
  have h6 : n0 ≤ 500 := by omega
  have h7 : 0 < n0 := by omega
  obtain ⟨P, P0, P1, eP, eP'⟩ := rest_of a2 1000 (by decide)
  have kA := fun W (h : Reads .i64 W a0 n0 z0) => turn_fine a0 n0 c0 z0 P W h (by omega) (by omega) (by omega)
  have kB := fun W (h : Reads .i64 W a1 n0 z1) => turn_fine a1 n0 c1 z1 P W h (by omega) (by omega) (by omega)
  have kH : ∀ W x c, Reads .i64 W (some x) (n0 + n0) (z0 ++ z1) → n0 + n0 ≤ c → Calls Try.prog 11 #[.slice (some x) (n0 + n0) c, .int .i64 2, .int .i64 P] W fun e w' => (∃ y c, e = .returned (.tuple #[.slice (some y) (n0 + n0) c, .int .i64 0]) ∧ Reads .i64 w' (some y) n0 (turnZ z0 P n0) ∧ Reads .i64 w' (some (y.add n0)) n0 (turnZ z1 P n0) ∧ n0 + n0 ≤ c) ∧ Below W.heap.size W w' := by
    intro W x c h hc
    have d2 : (n0 + n0) / 2 = n0 := by omega
    have k := heads_ok x (n0 + n0) c 2 (z0 ++ z1) P W h hc (by decide) (by omega) (by rw [d2]; omega) (by omega) (by omega)
    rw [d2, two_heads _ _ _ _ w0.len w1.len] at k
    refine k.mono fun e w' ⟨⟨a, c', he, hr, hl⟩, hw⟩ => ?_
    obtain ⟨y, rfl⟩ := hr.some_ (by omega)
    obtain ⟨g1, g2⟩ := reads_apart hr (turnZ_length _ _ _) (turnZ_length _ _ _)
    exact ⟨⟨y, c', he, g1, g2, hl⟩, hw⟩
  obtain ⟨L0, eL0⟩ : ∃ L, turnZ z0 P n0 = L := ⟨_, rfl⟩
  obtain ⟨L1, eL1⟩ : ∃ L, turnZ z1 P n0 = L := ⟨_, rfl⟩
  rw [eL0] at kA kH
  rw [eL1] at kB kH
  clear eL0 eL1 h1 h2 h4
  have n2 : 2 * (n0 : Int) = ((n0 + n0 : Nat) : Int) := by omega
  go_enter Try.func6, Try.ntmps6
  go_wp2_with (first
    | (go_at_call 13; refine (works_call _).mono ?_; rintro e W1 ⟨rfl, hb1⟩)
    | (at_builtin; refine wpList_copy rfl (.tmp 44) (.tmp 45) 22 rfl w.heap.size 2 i0 (.int .i64 0) 8 Try.underlying22 hi hz0 hz1 hz2 rfl _ 0 [] rfl (World.ownsRow_lit _ #[] 0 hb1.size (by decide) rfl) .i64 a0 n0 c0 z0 rfl (w0.below (below_new hb1 _)) e0 (by unfold maxLen; omega) (by omega) (below_new hb1 _).size ?_; intro v2 W2 ho2 hg2; obtain ⟨p2, q2, ev2, r2, hb2, -⟩ := copied hb1 _ ho2 hg2 w0; clear r2 ev2 hg2)
    | (at_builtin; refine wpList_copy rfl (.tmp 46) (.tmp 47) 22 rfl w.heap.size 2 i0 (.int .i64 0) 8 Try.underlying22 hi hz0 hz1 hz2 rfl _ (0 + n0) _ rfl ho2 .i64 a1 n0 c1 z1 rfl (w1.below hb2) e1 (by unfold maxLen; omega) (by omega) hb2.size ?_; intro v3 W3 ho3 hg3; obtain ⟨x3, c3, rfl, r3, l3, hb3⟩ := joined hb2 ho2 ho3 hg3 w0 w1 h7; clear ho2 ho3 hg3)
    | (go_at_call 11; refine (kH _ _ _ r3 l3).mono ?_; rintro e W4 ⟨⟨y4, c4, rfl, g4, g4', l4⟩, hb4⟩; replace hb4 := below_then hb3 hb4; clear r3)
    | (go_at_call_of 8 a0; refine (kA _ (w0.below hb4)).mono ?_; rintro e W5 ⟨⟨p5, q5, rfl, r5, -⟩, hb5⟩; replace g4 := g4.below hb5; replace g4' := g4'.below hb5; replace hb5 := below_then hb4 hb5)
    | (go_at_call_of 8 a1; refine (kB _ (w1.below hb5)).mono ?_; rintro e W6 ⟨⟨p6, q6, rfl, r6, -⟩, hb6⟩; replace g4 := g4.below hb6; replace g4' := g4'.below hb6; replace r5 := r5.below hb6; replace hb6 := below_then hb5 hb6)
    | (go_at_call_of 10 p5; refine (same_call _ _ _ L0 _ _ _ _ g4 r5).mono ?_; rintro e W7 ⟨rfl, hq⟩; have hb7 := below_drew hb6 hq; replace g4' := g4'.below (below_drew (Below.refl _ _) hq); replace r6 := r6.below (below_drew (Below.refl _ _) hq); clear hq g4 r5)
    | (go_at_call_of 10 p6; refine (same_call _ _ _ L1 _ _ _ _ g4' r6).mono ?_; rintro e W8 ⟨rfl, hq⟩; have hb8 := below_drew hb7 hq; clear hq g4' r6))
  go_ret
  exact ⟨rfl, by assumption⟩

theorem contract (H : Type) (enc : TypeId × Value → H) (W : World) (base : Nat) (args : Array Value) (ds gs : List (DataW H)) (before : List MemPlace)
    (hval0 : ∀ (j : Nat) t v, Try.f6.params[j]? = some t → args[j]? = some v → Value.okWide Try.prog W .any base t v)
    (hW : DataW.Whole enc Try.prog Try.f6.params.toList Rows.turnApartSpec.vars false W args.toList ds gs before) :
    Calls Try.prog 6 args W fun e W' => ∃ v, e = .returned v ∧ Rows.turnApartSpec.post enc Try.prog Try.f6 false true false false W args v W' := by
  have hval : ∀ (j : Nat) t v, Try.f6.params[j]? = some t → args[j]? = some v → Value.okWide Try.prog W .any base t v := hval0
  have hW' := hW
  obtain ⟨p, q, hA0, hV, rfl, hfz, hnd⟩ := hW
  have hA : DataW.TrodAll enc Try.prog W 0 (fun _ => true) true Try.f6.params.toList args.toList ds p := hA0
  rw [Try.params6] at hA hval
  obtain ⟨v0, vs0, d0, ds0, p0, q0, hargs, rfl, rfl, h0, r0⟩ := trodAll_cons hA
  obtain ⟨v1, vs1, d1, ds1, p1, q1, rfl, rfl, rfl, h1, r1⟩ := trodAll_cons r0
  obtain ⟨v2, vs2, d2, ds2, p2, q2, rfl, rfl, rfl, h2, r2⟩ := trodAll_cons r1
  obtain ⟨rfl, rfl, rfl⟩ := trodAll_nil r2
  obtain rfl : args = #[v0, v1, v2] := by cases args; simp_all
  obtain ⟨rfl, rfl⟩ := trodVars_none hV
  obtain ⟨a0, n0, c0, rfl⟩ := okWide_slice Try.underlying22 (hval 0 22 v0 rfl rfl)
  have k0 := h0
  have lt0 : ∀ x ∈ p0, x.block < W.heap.size := by obtain ⟨m, hm⟩ := k0; exact DataW.trod_lt m _ _ _ hm
  obtain ⟨z0, w0, e0, l0, s0⟩ : ∃ zs, Reads .i64 W a0 n0 zs ∧ (a0 = none → c0 = 0) ∧ n0 ≤ c0 ∧ (n0 = 0 ∨ ∃ el sp, d0 = .slice el sp ∧ n0 ≤ el.length + sp.length) := by
    obtain ⟨fuel, hf⟩ := h0
    rcases open_ints Try.underlying22 Try.underlying2 (by kernel_rfl) hf with ⟨hcs, hd⟩ | ⟨x, l, c, zs, hcs, _, hl, hm, hz, hd, hcell, hwz⟩
    · simp [Value.cells] at hcs
      obtain ⟨rfl, rfl, rfl⟩ := hcs
      exact ⟨[], Reads.nil _ _, fun _ => rfl, Nat.le_refl _, .inl rfl⟩
    · simp [Value.cells] at hcs
      obtain ⟨rfl, rfl, rfl⟩ := hcs
      exact ⟨_, Reads.of_open hl hm (by simpa using hz) hcell hwz, (fun h => by cases h), hl, .inr ⟨_, _, congrArg Prod.fst hd, open_length (by simpa using hz) hl⟩⟩
  obtain ⟨a1, n1, c1, rfl⟩ := okWide_slice Try.underlying22 (hval 1 22 v1 rfl rfl)
  have k1 := h1
  have lt1 : ∀ x ∈ p1, x.block < W.heap.size := by obtain ⟨m, hm⟩ := k1; exact DataW.trod_lt m _ _ _ hm
  obtain ⟨z1, w1, e1, l1, s1⟩ : ∃ zs, Reads .i64 W a1 n1 zs ∧ (a1 = none → c1 = 0) ∧ n1 ≤ c1 ∧ (n1 = 0 ∨ ∃ el sp, d1 = .slice el sp ∧ n1 ≤ el.length + sp.length) := by
    obtain ⟨fuel, hf⟩ := h1
    rcases open_ints Try.underlying22 Try.underlying2 (by kernel_rfl) hf with ⟨hcs, hd⟩ | ⟨x, l, c, zs, hcs, _, hl, hm, hz, hd, hcell, hwz⟩
    · simp [Value.cells] at hcs
      obtain ⟨rfl, rfl, rfl⟩ := hcs
      exact ⟨[], Reads.nil _ _, fun _ => rfl, Nat.le_refl _, .inl rfl⟩
    · simp [Value.cells] at hcs
      obtain ⟨rfl, rfl, rfl⟩ := hcs
      exact ⟨_, Reads.of_open hl hm (by simpa using hz) hcell hwz, (fun h => by cases h), hl, .inr ⟨_, _, congrArg Prod.fst hd, open_length (by simpa using hz) hl⟩⟩
  obtain ⟨a2, rfl, rfl, rfl, w2⟩ := open_int Try.underlying3 (hval 2 3 v2 rfl rfl) h2
  clear hA0 hval0
  refine (walk a0 n0 c0 z0 a1 n1 c1 z1 a2 W w0 e0 l0 w1 e1 l1 w2).mono fun e W' ⟨he, bel⟩ => ?_
  subst he
  exact ⟨_, rfl, _, _, _, [], _, [], hW', trodAll_mk1 (shut_bool Try.underlying4 _), (trodAll_cons_mk (Below.trod laidOut (by kernel_rfl) (of_decide_eq_true (by kernel_rfl)) k0 bel lt0) (trodAll_cons_mk (Below.trod laidOut (by kernel_rfl) (of_decide_eq_true (by kernel_rfl)) k1 bel lt1) (trodAll_cons_mk (shut_int Try.underlying3 w2) trodAll_mk0))), rfl, bel.frame _, fun h => by cases h⟩

set_option maxRecDepth 100000 in
theorem lifted (os : Os) (started : os.Started) (H : Type) (enc : TypeId × Value → H) :
    ReturnsInHanded {} Try.checked os 6 .any (Rows.turnApartSpec.pre6 enc Try.prog Try.f6 Rows.turnApartRow.domain false) (Rows.turnApartSpec.post enc Try.prog Try.f6 false true false false) := by
  refine returnsInHanded_of_change (C := Try.checked) own started (by kernel_rfl) Try.func6
    (ChangeSpec.witness6 (enc := enc) (C := Try.checked) false ⟨#[], #[.slice none 0 0, .slice none 0 0, .int .i64 0], []⟩ 8 (by kernel_rfl) (by kernel_rfl) (by kernel_rfl) (by kernel_rfl)) ?_
  intro W base args ds gs before hval hW _ _
  exact contract H enc W base args ds gs before hval hW

theorem over : Rows.turnApartRow.holds Try.pinned (OpenSpec.ofChange Rows.turnApartSpec) :=
  OpenClaim.holds_of_wide 6 Try.f6 rfl rfl rfl rfl rfl rfl rfl ⟨rfl, rfl, rfl, rfl, rfl⟩ rfl rfl rfl rfl rfl (by kernel_rfl) Try.func6 (by kernel_rfl)
    (of_decide_eq_true (by kernel_rfl)) (by unfold Func.isWrapper; first | (rw [if_pos (by decide +kernel)]; kernel_rfl) | (rw [if_neg (by decide +kernel)]; exact ⟨rfl, rfl⟩))
    (fun os started H enc _ => lifted os started H enc)

theorem proved : Rows.TurnApartSaid :=
  over
#print axioms proved
end Go.Proofs.Ytjbjclphomeafaa.turnApart
