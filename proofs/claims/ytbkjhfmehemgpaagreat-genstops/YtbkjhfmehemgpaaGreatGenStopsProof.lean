/- GenStops: with the first token of an answer as the one behind which no more follow, the answer is that token alone; of any case of Greedy or Sample whose prompt holds at most a hundred tokens. -/
import Derived.Test.YtbkjhfmehemgpaaGreatRows
import Derived.Test.YtbkjhfmehemgpaaGreatFa44
import Derived.Test.YtbkjhfmehemgpaaGreatFa45
import Derived.WalkKit
import Derived.ProofKit
import Derived.OpenShut
import Derived.ChangeOld
import Derived.Below
import Derived.WalkLawsBesides
import Derived.ChangeMaps5
import Derived.Deep.Cut
namespace Go.Proofs.YtbkjhfmehemgpaaGreat.genStops
open Go.ChangeShapes Go.WideShapes Go.ChangeAt Go.RowKit
set_option linter.unusedVariables false
set_option linter.unusedSimpArgs false

theorem own : ownKnob Tryz.prog.godebug = none := by kernel_rfl
theorem laidOut : laidOutB Tryz.prog = true := by kernel_rfl


set_option maxHeartbeats 4000000 in
set_option maxRecDepth 20000 in
theorem walk (K0 : Kg) (z0 : List Int) (w : World) (w0 : KgAt w K0 z0) :
    Calls Tryz.prog 6 #[K0.w] w fun e w' => e = .returned (.bool true) ∧ Below w.heap.size w w' := by
  have hb := below_new (Below.refl w.heap.size w) (.cells K0.cs 30)
  have q0 : Blk 30 (w.alloc (.cells K0.cs 30)) w.heap.size K0.cs := Blk.new 30 w _
  have hk := w0.q.below hb
  have ws := w0.ws
  clear w0
  by_cases ok : okB K0.c.d K0.c.h K0.c.l K0.c.v K0.c.u K0.c.x K0.c.t K0.c.n = true
  case neg =>
    have km := Made_no K0 (by simpa using ok)
    clear ok hk
    go_enter Tryz.func6, Tryz.ntmps6
    go_upto_region 3 with (go_at_call 15; refine (works_call _).mono ?_; rintro e V1 ⟨rfl, h⟩; replace q0 := q0.kept h; replace hb := below_then hb h; clear h)
    refine wp_region_list ?_
    refine wpList_load_row rfl 30 (.tmp 1) rfl w.heap.size rfl 30 K0.cs (0,0) _ q0 Tryz.underlying30 rfl rfl ?_
    go_wp2_with (go_at_call 8; refine (km _).mono ?_; rintro e V2 ⟨⟨t, rfl⟩, h⟩; replace hb := below_new (below_new (below_then hb h) (.cells #[.int .i64 0, .int .i64 0, .int .i64 0, .int .i64 0, .int .i64 0, .int .i64 0, .int .i64 0, .int .i64 0, .slice t.E.a t.E.n t.E.c, .slice t.L.a t.L.n t.L.c, .slice t.N.a t.N.n t.N.c, .slice t.O.a t.O.n t.O.c] 34)) (.cells #[.int .i64 0, .int .i64 0, .slice none 0 0] 37); clear h km)
    go_ret
    exact ⟨rfl, hb⟩
  have km := Made_yes K0 ok ws
  clear ok
  go_enter Tryz.func6, Tryz.ntmps6
  go_upto_region 3 with (go_at_call 15; refine (works_call _).mono ?_; rintro e V1 ⟨rfl, h⟩; replace q0 := q0.kept h; replace hk := hk.below h; replace hb := below_then hb h; clear h)
  refine wp_region_list ?_
  refine wpList_load_row rfl 30 (.tmp 1) rfl w.heap.size rfl 30 K0.cs (0,0) _ q0 Tryz.underlying30 rfl rfl ?_
  go_upto_region 4 with (go_at_call 8; refine (km _).mono ?_; rintro e V2 ⟨⟨t, ta, rfl, hm, ha⟩, h⟩; have q5 : Blk 34 ((V2.alloc (.cells (K0.rq t ta.1).mc 34)).alloc (.cells (K0.rq t ta.1).ac 37)) V2.heap.size (K0.rq t ta.1).mc := (Blk.new 34 V2 _).kept (below_new (Below.refl _ _) _); have q6 : Blk 37 ((V2.alloc (.cells (K0.rq t ta.1).mc 34)).alloc (.cells (K0.rq t ta.1).ac 37)) (V2.heap.size + 1) (K0.rq t ta.1).ac := Blk.new_at 37 (V2.alloc _) _ _ (by simp); have hy : Below V2.heap.size V2 ((V2.alloc (.cells (K0.rq t ta.1).mc 34)).alloc (.cells (K0.rq t ta.1).ac 37)) := below_new (below_new (Below.refl _ _) _) _; replace q0 := (q0.kept h).kept hy; replace hk := (hk.below h).below hy; replace hb := below_then (below_then hb h) hy; have mo := (newM_now hm).below hy; have ao := (newA_now ha).below hy; obtain ⟨V3, e3⟩ : ∃ V3, (V2.alloc (.cells (K0.rq t ta.1).mc 34)).alloc (.cells (K0.rq t ta.1).ac 37) = V3 := ⟨_, rfl⟩; rw [e3] at q0 q5 q6 hk hb mo ao; have E3 := hidden_ e3; clear e3 hm ha h hy km)
  rw [E3.out]
  clear E3
  obtain ⟨g5, e5⟩ : ∃ g, V2.heap.size = g := ⟨_, rfl⟩
  rw [e5] at q5 q6 ⊢
  clear e5
  have c10 : V3.cell? ⟨w.heap.size, 10, none⟩ = some (.int .i64 K0.q.k) := q0.cell 10 rfl
  have c11 := q0.cell 11 rfl
  by_cases h100 : 100 < (K0.q.n : Int)
  · go_wp2
    go_ret
    exact ⟨rfl, hb⟩
  by_cases k3 : K0.q.k = 3
  · rw [k3] at c10
    go_wp2
    go_ret
    exact ⟨rfl, hb⟩
  have t3 : (K0.q.k == 3) = false := by simpa using k3
  go_upto_region 6 with fail
  obtain ⟨E, eE⟩ : ∃ E, reqE (caseR K0 t ta.1 K0.q) z0 = E := ⟨_, rfl⟩
  obtain ⟨T, eT⟩ : ∃ T, ansT (caseR K0 t ta.1 K0.q) z0 [] = T := ⟨_, rfl⟩
  clear c10 c11
  refine wp_region_tab (by kernel_rfl) (by kernel_rfl) rfl (fun u => Below V3.heap.size V3 u) [.eq (K0.rq t ta.1).mw, .eq (K0.rq t ta.1).aw, .eq (.pointer (some ⟨w.heap.size, 10, none⟩)), .eq K0.q.w, ownE K0.q z0, ansE T E, ansE T E, .numc 0 T.length T, .any, .eq (.int .i64 E), .numc 0 T.length T, .any, .eq (.int .i64 E)] (below_drew (Below.refl _ _) ⟨1, rfl⟩) ⟨?lm, ?la, ?fa, ?lq, ?ow, ?an, ?mv, ?x0, ?x1, ?x2, ?p0, ?p1, ?p2, trivial⟩ ?fin
  case lm =>
    rintro b u - hS ⟨h1, -⟩ K hK
    exact ask_load rfl h1 (q5.kept hS) Tryz.underlying34 rfl rfl (hK _ _ (Below.refl _ _) hS rfl)
  case la =>
    rintro b u - hS ⟨h1, -⟩ K hK
    exact ask_load rfl h1 (q6.kept hS) Tryz.underlying37 rfl rfl (hK _ _ (Below.refl _ _) hS rfl)
  case fa =>
    rintro b u - hS ⟨h1, -⟩ K hK
    replace h1 := show b.tmps.getD 1 undef = .pointer (some ⟨w.heap.size, 0, none⟩) from h1
    dsimp only
    go_simp
    exact hK _ _ (Below.refl _ _) hS rfl
  case lq =>
    rintro b u - hS ⟨h1, -⟩ K hK
    replace h1 := show b.tmps.getD 39 undef = .pointer (some ⟨w.heap.size, 10, none⟩) from h1
    have qk := q0.kept hS
    have c10 := qk.cell 10 rfl
    have c11 := qk.cell 11 rfl
    have c12 := qk.cell 12 rfl
    have c13 := qk.cell 13 rfl
    have c14 := qk.cell 14 rfl
    have c15 := qk.cell 15 rfl
    have c16 := qk.cell 16 rfl
    have c17 := qk.cell 17 rfl
    have c18 := qk.cell 18 rfl
    clear qk
    dsimp only
    go_simp
    exact hK _ _ (Below.refl _ _) hS rfl
  case ow =>
    rintro b u - hS ⟨h1, -⟩ K hK
    replace h1 := show b.tmps.getD 40 undef = K0.q.w from h1
    dsimp only
    go_wp2_with (go_at_call 12; refine (ownAsk_call K0.q z0 _ (hk.below hS) (by omega)).mono ?_; rintro e W1 ⟨⟨p, C, rfl, hA⟩, h⟩; exact hK _ _ h (below_then hS h) ⟨p, C, rfl, hA⟩)
  case an =>
    rintro b u - hS ⟨h1, h2, ⟨p, C, h3, hA⟩, -⟩ K hK
    replace h1 := show b.tmps.getD 37 undef = (K0.rq t ta.1).mw from h1
    replace h2 := show b.tmps.getD 38 undef = (K0.rq t ta.1).aw from h2
    replace h3 := show b.tmps.getD 41 undef = (K0.q.with p C).w from h3
    have s := with_same K0 t ta.1 K0.q p C z0
    have kc := case_call K0 t ta.1 ta.2 (K0.q.with p C) z0 k3 u (mo.below hS) (ao.below hS) hA T _ E (s.2.1.trans eT) rfl (s.1.trans eE)
    clear s hA
    dsimp only
    go_wp2_with (go_at_call 9; refine kc.mono ?_; rintro e W1 ⟨⟨xa, xc, va, vc, rfl, rT, rV, xl, -⟩, h⟩; exact hK _ _ h (below_then hS h) ⟨xa, xc, va, _, vc, rfl, rT, xl⟩)
  case mv =>
    rintro b u - hS ⟨h1, -⟩ K hK
    exact hK _ _ (Below.refl _ _) hS h1
  case x0 =>
    rintro b u - hS ⟨⟨xa, xc, va, n, vc, h1, rT, xl⟩, -⟩ K hK
    dsimp only
    go_simp
    exact hK _ _ (Below.refl _ _) hS ⟨_, _, rfl, rT, xl, fun _ _ => Nat.zero_le _⟩
  case x1 =>
    rintro b u - hS ⟨⟨xa, xc, va, n, vc, h1, rT, xl⟩, -⟩ K hK
    dsimp only
    go_simp
    exact hK _ _ (Below.refl _ _) hS trivial
  case x2 =>
    rintro b u - hS ⟨⟨xa, xc, va, n, vc, h1, rT, xl⟩, -⟩ K hK
    dsimp only
    go_simp
    exact hK _ _ (Below.refl _ _) hS rfl
  case p0 =>
    rintro b u - hS ⟨h1, -⟩ K hK
    exact hK _ _ (Below.refl _ _) hS h1
  case p1 =>
    rintro b u - hS ⟨h1, -⟩ K hK
    exact hK _ _ (Below.refl _ _) hS trivial
  case p2 =>
    rintro b u - hS ⟨h1, -⟩ K hK
    exact hK _ _ (Below.refl _ _) hS h1
  rintro f u hS ⟨-, -, -, -, -, -, -, -, -, -, ⟨xa, xc, f6, rx, xl, -⟩, -, f8, -⟩
  replace f6 := show f 6 = .slice xa T.length xc from f6
  replace f8 := show f 8 = .int .i64 E from f8
  simp only [List.filterMap, List.foldl, f6, f8, Act.put, List.setIfInBounds_toArray, List.set_cons_succ, List.set_cons_zero]
  clear f6 f8
  replace q0 := q0.kept hS
  replace q5 := q5.kept hS
  replace q6 := q6.kept hS
  replace mo := mo.below hS
  replace ao := ao.below hS
  replace hk := hk.below hS
  replace hb := below_then hb hS
  clear hS
  have c10 : u.cell? ⟨w.heap.size, 10, none⟩ = some (.int .i64 K0.q.k) := q0.cell 10 rfl
  by_cases hE : E = 0
  case neg =>
    have tE : (E != 0) = true := by simpa using hE
    obtain rfl : [] = T := (ans_no (.inl (by rw [eE]; exact hE))).symm.trans eT
    clear eE eT
    go_wp2
    go_ret
    exact ⟨rfl, hb⟩
  subst hE
  by_cases k4 : K0.q.k = 4
  · rw [k4] at c10
    obtain rfl : [] = T := (ans_no (.inr k4)).symm.trans eT
    clear eE eT
    go_wp2
    go_ret
    exact ⟨rfl, hb⟩
  have t4 : (K0.q.k == 4) = false := by simpa using k4
  obtain ⟨x, r, eX, hE', hT'⟩ := stops_law eE k4 k3
  obtain rfl := eT.symm.trans eX
  clear eX
  obtain ⟨y, rfl⟩ := rx.some_ (by simp)
  have cy : u.cell? y = some (.int .i64 x) := by
    have := rx.cell y rfl 0 (by simp)
    rwa [show y.add 0 = y by simp [Addr.add]] at this
  have ry := reads_first (m := 1) (xs := [x]) rx (by simp) rfl
  obtain ⟨m, em⟩ : ∃ m, (x :: r).length = m := ⟨_, rfl⟩
  have m1 : 1 ≤ m := by rw [← em]; simp
  rw [em] at xl ⊢
  have wx := rx.wf 0
  clear em rx
  have hk9 := ownAsk_call K0.q z0 u hk (by omega)
  have kf : ∀ (w : World) (a : Addr) (x : Nat) (m : Mode), (store a (.float .f64 x) m).run Tryz.prog w = stored Tryz.prog w a (.float .f64 x) m := fun w a x m => run_store Tryz.prog w a _ m rfl
  have c11 := q0.cell 11 rfl
  have c12 := q0.cell 12 rfl
  have c13 := q0.cell 13 rfl
  have c14 := q0.cell 14 rfl
  have c15 := q0.cell 15 rfl
  have c16 := q0.cell 16 rfl
  have c17 := q0.cell 17 rfl
  have c18 := q0.cell 18 rfl
  go_upto_region 10 with (go_at_call 12; refine hk9.mono ?_; rintro e V4 ⟨⟨p, C, rfl, hA⟩, h⟩; clear hk9 c10 c11 c12 c13 c14 c15 c16 c17 c18; replace cy := (h.cell (World.block_lt_of_cell? _ _ cy)).trans cy; replace ry := ry.below h; replace q5 := q5.kept h; replace q6 := q6.kept h; replace mo := mo.below h; replace ao := ao.below h; replace hb := below_then hb h; clear h hk q0)
  have hx : Below V4.heap.size V4 (V4.alloc (.cells (K0.q.with p C).cs 28)) := below_new (Below.refl _ _) _
  have qg : Blk 28 (V4.alloc (.cells (K0.q.with p C).cs 28)) V4.heap.size (K0.q.with p C).cs := Blk.new 28 V4 _
  replace cy := (hx.cell (World.block_lt_of_cell? _ _ cy)).trans cy
  obtain ⟨V5, e5⟩ : ∃ V5, V4.alloc (.cells (K0.q.with p C).cs 28) = V5 := ⟨_, rfl⟩
  rw [e5] at hx qg cy ⊢
  clear e5
  obtain ⟨g, eg⟩ : ∃ g, V4.heap.size = g := ⟨_, rfl⟩
  have lg : V4.heap.size ≤ g := by omega
  rw [eg] at qg ⊢
  clear eg
  obtain ⟨Z, eZ, qG, hZ⟩ : ∃ Z, V5.setCell ⟨g, 3, none⟩ (.int .i64 x) = Z ∧ Blk 28 Z g (askLS (K0.q.with p C) K0.q.L x).cs ∧ Below V4.heap.size V4 Z := ⟨_, rfl, qg.set 3 _, hx.setCell lg _⟩
  have x3 := qg.cell 3 rfl
  have f3 := qg.open_ 3
  have hS := hidden_ (And.intro qG hZ)
  clear qG hZ qg hx
  have n0 : ¬ ((m : Int) = 0) := by omega
  have tm : ((m : Int) == 0) = false := by simpa using n0
  have lm : (0 : Int) < (m : Int) := by omega
  go_upto_region 13 with fail
  obtain ⟨qG, hZ⟩ := hS.out
  clear hS x3 f3 eZ cy
  have kc := case_call K0 t ta.1 ta.2 (askLS (K0.q.with p C) K0.q.L x) z0 k3 Z (mo.below hZ) (ao.below hZ) ⟨hA.ws, hA.wL, hA.t.below hZ, hA.te, hA.tl⟩ [x] _ 0 hT' rfl hE'
  refine wp_region_list ?_
  refine wpList_load_row rfl 34 (.tmp 3) rfl g5 rfl 34 _ (0,0) _ (q5.kept hZ) Tryz.underlying34 rfl rfl ?_
  refine wpList_load_row rfl 37 (.tmp 4) rfl (g5 + 1) rfl 37 _ (0,0) _ (q6.kept hZ) Tryz.underlying37 rfl rfl ?_
  refine wpList_load_row rfl 28 (.tmp 9) rfl g rfl 28 _ (0,0) _ qG Tryz.underlying28 rfl rfl ?_
  replace ry := ry.below hZ
  replace hb := below_then hb hZ
  clear hZ q5 q6 mo ao qG hA
  have one : (1 : Int) ≤ (xc : Int) := by omega
  go_upto_region 14 with (go_at_call 9; refine kc.mono ?_; rintro e Z1 ⟨⟨tb, tc, vb, vc, rfl, rT, rV, -⟩, h'⟩; clear kc rV; replace ry := ry.below h'; replace hb := below_then hb h'; clear h')
  go_wp2_with (go_at_call 14; refine (same_ints tb _ tc [x] (some y) 1 xc _ rT ry).mono ?_; rintro e Zt ⟨rfl, h'⟩; replace hb := below_then hb h'; clear h' rT ry)
  go_ret
  exact ⟨rfl, hb⟩

set_option maxRecDepth 100000 in
theorem contract (H : Type) (enc : TypeId × Value → H) (W : World) (base : Nat) (args : Array Value) (ds gs : List (DataW H)) (before : List MemPlace)
    (hval0 : ∀ (j : Nat) t v, Tryz.f6.params[j]? = some t → args[j]? = some v → Value.okWide Tryz.prog W .any base t v)
    (hW : DataW.Whole enc Tryz.prog Tryz.f6.params.toList Rows.genStopsSpec.vars false W args.toList ds gs before) :
    Calls Tryz.prog 6 args W fun e W' => ∃ v, e = .returned v ∧ Rows.genStopsSpec.post enc Tryz.prog Tryz.f6 false true false false W args v W' := by
  have hval : ∀ (j : Nat) t v, Tryz.f6.params[j]? = some t → args[j]? = some v → Value.okWide Tryz.prog W .any base t v := hval0
  have hW' := hW
  obtain ⟨p, q, hA0, hV, rfl, hfz, hnd⟩ := hW
  have hA : DataW.TrodAll enc Tryz.prog W 0 (fun _ => true) true Tryz.f6.params.toList args.toList ds p := hA0
  rw [Tryz.params6] at hA hval
  obtain ⟨v0, vs0, d0, ds0, p0, q0, hargs, rfl, rfl, h0, r0⟩ := trodAll_cons hA
  obtain ⟨rfl, rfl, rfl⟩ := trodAll_nil r0
  obtain rfl : args = #[v0] := by cases args; simp_all
  obtain ⟨rfl, rfl⟩ := trodVars_none hV
  have k0 := h0
  have lt0 : ∀ x ∈ p0, x.block < W.heap.size := by obtain ⟨m, hm⟩ := k0; exact DataW.trod_lt m _ _ _ hm
  obtain ⟨K0, z0, rfl, w0⟩ := open_kg (hval 0 30 v0 rfl rfl) h0
  clear hA0 hval0
  refine (walk K0 z0 W w0).mono fun e W' ⟨he, bel⟩ => ?_
  subst he
  exact ⟨_, rfl, _, _, _, [], _, [], hW', trodAll_mk1 (shut_bool Tryz.underlying4 _), (trodAll_cons_mk (Below.trod laidOut (by kernel_rfl) (of_decide_eq_true (by kernel_rfl)) k0 bel lt0) trodAll_mk0), rfl, bel.frame _, fun h => by cases h⟩

set_option maxRecDepth 100000 in
theorem lifted (os : Os) (started : os.Started) (H : Type) (enc : TypeId × Value → H) :
    ReturnsInHanded {} Tryz.checked os 6 .any (Rows.genStopsSpec.pre6 enc Tryz.prog Tryz.f6 Rows.genStopsRow.domain false) (Rows.genStopsSpec.post enc Tryz.prog Tryz.f6 false true false false) := by
  refine returnsInHanded_of_change (C := Tryz.checked) own started (by kernel_rfl) Tryz.func6
    (ChangeSpec.witness6 (enc := enc) (C := Tryz.checked) false ⟨#[], #[.agg #[.int .i64 0, .int .i64 0, .int .i64 0, .int .i64 0, .int .i64 0, .int .i64 0, .int .i64 0, .int .i64 0, .int .u64 0, .int .i64 0, .int .i64 0, .slice none 0 0, .int .i64 0, .int .i64 0, .int .u64 0, .int .i64 0, .float .f64 0, .int .i64 0, .int .i64 0]], []⟩ 8 (by kernel_rfl) (by kernel_rfl) (by kernel_rfl) (by kernel_rfl)) ?_
  intro W base args ds gs before hval hW _ _
  exact contract H enc W base args ds gs before hval hW

theorem over : Rows.genStopsRow.holds Tryz.pinned (OpenSpec.ofChange Rows.genStopsSpec) :=
  OpenClaim.holds_of_wide 6 Tryz.f6 rfl rfl rfl rfl rfl rfl rfl ⟨rfl, rfl, rfl, rfl, rfl⟩ rfl rfl rfl rfl rfl (by kernel_rfl) Tryz.func6 (by kernel_rfl)
    (of_decide_eq_true (by kernel_rfl)) (by unfold Func.isWrapper; first | (rw [if_pos (by decide +kernel)]; kernel_rfl) | (rw [if_neg (by decide +kernel)]; exact ⟨rfl, rfl⟩))
    (fun os started H enc _ => lifted os started H enc)

theorem proved : Rows.GenStopsSaid :=
  over
#print axioms proved
end Go.Proofs.YtbkjhfmehemgpaaGreat.genStops
