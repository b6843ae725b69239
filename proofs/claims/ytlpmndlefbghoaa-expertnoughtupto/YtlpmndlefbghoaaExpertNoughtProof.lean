/- For every case of networks, a router and a row, of together at most 1048576 values, networks whose second matrices are nought make a row of noughts, as long as the row, or nothing where the program's Mix refuses. -/
import Derived.Test.YtlpmndlefbghoaaRows
import Derived.Test.YtlpmndlefbghoaaView
import Derived.Test.YtlpmndlefbghoaaOwn
import Derived.Test.YtlpmndlefbghoaaSteps
import Derived.Test.YtlpmndlefbghoaaWhere
import Derived.Test.YtlpmndlefbghoaaGrids
import Derived.Test.YtlpmndlefbghoaaSame
import Derived.Test.YtlpmndlefbghoaaSameI
import Derived.Test.YtlpmndlefbghoaaInvIn
import Derived.Test.YtlpmndlefbghoaaHeld
import Derived.Test.YtlpmndlefbghoaaXpNeed
import Derived.Test.YtlpmndlefbghoaaAskZ
import Derived.Test.YtlpmndlefbghoaaXpRouteZ
import Derived.Test.YtlpmndlefbghoaaXpMixZ
import Derived.Test.YtlpmndlefbghoaaMixZ
import Derived.Test.YtlpmndlefbghoaaXpGridB
import Derived.Test.YtlpmndlefbghoaaRegZ
import Derived.Test.YtlpmndlefbghoaaXpRegE
import Derived.Test.YtlpmndlefbghoaaCaseZ
import Derived.Test.YtlpmndlefbghoaaXpWorks
import Derived.Test.YtlpmndlefbghoaaXpNoughtZ
import Derived.WalkKit
import Derived.ProofKit
import Derived.OpenShut
import Derived.ChangeOld
import Derived.Below
import Derived.WalkLawsBesides
import Derived.ChangeMaps5
import Derived.JoinedCond
namespace Go.Proofs.Ytlpmndlefbghoaa.expertNought
open Go.ChangeShapes Go.WideShapes Go.ChangeAt Go.RowKit
set_option linter.unusedVariables false
set_option linter.unusedSimpArgs false

theorem own : ownKnob Try.prog.godebug = none := by kernel_rfl
theorem laidOut : laidOutB Try.prog = true := by kernel_rfl

theorem made_small (n j : Nat) (hj : j < n) : ((madeCells (Value.int .i8 0).cells (n * 1)).toList)[j]? = some (.int .i8 0) := by
  rw [Nat.mul_one]
  simp [madeCells, Value.cells, hj, Nat.mod_one]
theorem nought_at (n j : Nat) (hj : j < n) : (List.replicate n (0 : Int)).getD j 0 = 0 := by simp [List.getD, hj]

set_option maxHeartbeats 8000000 in
set_option maxRecDepth 100000 in
theorem walk (C0 : CaseV) (w : World) (w0 : CaseAt w C0) :
    Calls Try.prog 7 #[C0.v] w fun e w' => e = .returned (.bool true) ∧ Below w.heap.size w w' := by
  obtain ⟨ra, rn, rc, rz, ua, un, uc, UA, UC, U, da, dn, dc, DA, DC, D, h, k, xa, xn, xc, xz⟩ := C0
  obtain ⟨r, re, rl, rb, u, ub, d, db, wh, wk, x, xe, xl, xb⟩ := w0
  dsimp only at r re rl rb u ub d db wh wk x xe xl xb
  show Calls Try.prog 7 #[.agg #[.slice ra rn rc, .slice ua un uc, .slice da dn dc, .int .i64 h, .int .i64 k, .slice xa xn xc]] w _
  have kg := fun W => great_call ra rn rc ua un uc da dn dc h k xa xn xc W rb ub db
  have hnot : ∀ (x : Bool) (w : World), (Op.unary .not (.bool x)).run Try.prog w = .ok (.bool (!x)) w := fun _ _ => rfl
  by_cases hg : greatB un dn rn = true
  · rw [hg] at kg
    go_enter Try.func7, Try.ntmps7
    go_wp2_with (first
    | (go_at_call 18; refine (works_call _).mono ?_; rintro e W0 ⟨rfl, d0⟩; obtain ⟨q0, q1, q2, q3, q4, q5, -⟩ := case_cells d0)
    | (go_at_call 8; refine (kg _).mono ?_; rintro e W1 ⟨rfl, d1'⟩; have d1 := below_then d0 d1'; clear d1' q0 q1 q2 q3 q4 q5; obtain ⟨q0, q1, q2, q3, q4, q5, hB1⟩ := case_cells d1))
    go_ret
    exact ⟨rfl, hB1⟩
  rw [Bool.not_eq_true] at hg
  rw [hg] at kg
  clear hg
  by_cases hx0 : xn = 0
  · subst hx0
    go_enter Try.func7, Try.ntmps7
    go_wp2_with (first
    | (go_at_call 18; refine (works_call _).mono ?_; rintro e W0 ⟨rfl, d0⟩; obtain ⟨q0, q1, q2, q3, q4, q5, -⟩ := case_cells d0)
    | (go_at_call 8; refine (kg _).mono ?_; rintro e W1 ⟨rfl, d1'⟩; have d1 := below_then d0 d1'; clear d1' q0 q1 q2 q3 q4 q5; obtain ⟨q0, q1, q2, q3, q4, q5, hB1⟩ := case_cells d1))
    go_ret
    exact ⟨rfl, hB1⟩
  have p1 : ((xn : Int) == 0) = false := by simp; omega
  obtain ⟨i0, hi, hz0, hz1, hz2⟩ := info_parts info53
  obtain ⟨j0, hj0, hy0, hy1, hy2⟩ := info_parts info22
  by_cases hE : mixE rz un dn U (fun r => List.replicate (D r).length 0) h k xz = 0
  · have k9 := fun (W : World) p q A (h0 : Reads .i8 W ra rn rz) (g1 : Nets W ua un UA UC U) (g2 : Nets W p dn A (fun r => (D r).length) (fun r => List.replicate (D r).length 0)) (h5 : Reads .i64 W xa xn xz) => Mix_yes ra rn rc rz ua un uc UA UC U p dn q A (fun r => (D r).length) (fun r => List.replicate (D r).length 0) h k xa xn xc xz W h0 rl g1 g2 h5 wh wk (by omega) (by omega) (by omega) hE
    have hz : ∀ i, (mixL rz un U (fun r => List.replicate (D r).length 0) k xz).getD i 0 = 0 := fun i => mix_nought rz un U (fun r => List.replicate (D r).length 0) k xz (fun r z hz => List.eq_of_mem_replicate hz) i
    obtain ⟨LL, eLL⟩ : ∃ LL, mixL rz un U (fun r => List.replicate (D r).length 0) k xz = LL := ⟨_, rfl⟩
    rw [eLL] at k9 hz
    clear eLL hE
    go_enter Try.func7, Try.ntmps7
    go_wp2_with (first
      | (go_at_call 18; refine (works_call _).mono ?_; rintro e W0 ⟨rfl, d0⟩; obtain ⟨q0, q1, q2, q3, q4, q5, -⟩ := case_cells d0)
      | (go_at_call 8; refine (kg _).mono ?_; rintro e W1 ⟨rfl, d1'⟩; have d1 := below_then d0 d1'; clear d1' q0 q1 q2 q3 q4 q5; obtain ⟨q0, q1, q2, q3, q4, q5, hB1⟩ := case_cells d1))
    have cc := fun (W : World) (hb : Below W1.heap.size W1 W) => case_cells (below_then d1 hb)
    clear q0 q1 q2 q3 q4 q5 kg d0
    go_loopw [3, 4] (fun v i wr => ∃ j : Nat, j ≤ dn ∧ i = .int .i64 j ∧ Below W1.heap.size W1 wr ∧ ∃ A, OwnGridB W1.heap.size wr v j A (fun r => (D r).length) (fun r => List.replicate (D r).length 0) ∧ ∀ r, r < j → ∃ y, A r = some y) (fun _ i _ => dn - (intOf i).toNat)
    case atStart => exact ⟨0, Nat.zero_le _, rfl, Below.refl _ _, fun _ => none, OwnGridB.nil _ _ _ _ _, fun r h => by omega⟩
    case round =>
      obtain ⟨j, hj, rfl, hbr, A, og, hsm⟩ := hrel
      by_cases hlt : j < dn
      · obtain ⟨-, -, q2, -, -, -, hBr⟩ := cc wr hbr
        have dd := d.below hBr
        obtain ⟨ax, rfl⟩ := d.grid.some_ (by omega)
        have cx := dd.grid.cell ax rfl j hlt
        have gk := d.bnd j hlt
        have own := og.own
        have hsz := hbr.size
        obtain ⟨m, em⟩ : ∃ m, (D j).length = m := ⟨_, rfl⟩
        have Em : Hid ((D j).length = m) := em
        rw [em] at cx gk
        clear em dd
        go_wp2_with (first
          | (at_make; refine wpList_make_full _ rfl (.tmp 31) (.tmp 31) 22 rfl wr.heap.size 53 i0 (.int .i8 0) 1 Try.underlying22 hi hz0 hz1 .i64 .i64 _ _ m rfl rfl rfl rfl (by rw [hz2]; omega) (by unfold maxLen; omega) (Nat.le_refl _) ?_; intro w1 hown1 hgrow1; have r1 : Reads .i8 w1 (some ⟨wr.heap.size, 0, none⟩) m (List.replicate m 0) := own_reads_at hown1 (by simp) (fun z hz => by rw [List.eq_of_mem_replicate hz]; decide) (fun i hi' => by rw [made_small m i hi', nought_at m i hi']); have hb1 : Below wr.heap.size wr w1 := (Below.refl _ _).grown hgrow1 (Nat.le_refl _) (fun k h => by cases h); have own1 := own_below own hb1; have hb1' := below_then hbr hb1; clear hown1 hgrow1)
          | (at_builtin; refine wpList_append_where rfl (.tmp 25) (.tmp 33) 23 rfl W1.heap.size 22 j0 (.slice none 0 0) 24 Try.underlying23 hj0 hy0 hy1 hy2 rfl _ j _ rfl (own1.alloc _) ⟨_, 0, none⟩ 1 (.slice (some ⟨wr.heap.size, 0, none⟩) m m) rfl (one_new _ _ _) (slice_oneCell _ _ _) (by unfold maxLen; omega) (by omega) (below_new hb1' _).size ?_; intro v2 W2 ho2 hg2 hs2))
        go_roundw
        case rel =>
          have bn := below_new (Below.refl w1.heap.size w1) (Obj.cells #[Value.slice (some ⟨wr.heap.size, 0, none⟩) m m] 22)
          have og2 := ((og.below hb1).below bn).app (p := some ⟨wr.heap.size, 0, none⟩) (c := m) (V := .slice (some ⟨wr.heap.size, 0, none⟩) m m) (by simp [Em.out]) (by rw [List.length_replicate, Em.out]; exact r1.below bn) (fun _ y hy g hg e => by
            obtain rfl := Option.some.inj hy
            have l2 := (og.own.lt g hg).2
            have e' : wr.heap.size = g := e
            omega) ho2 hg2 hs2
          refine ⟨j + 1, by omega, by go_num, below_append (below_new hb1' _) (own1.alloc _) hg2, (fun r => if r = j then some ⟨wr.heap.size, 0, none⟩ else A r), ⟨?_, og2.row, og2.apart⟩, fun r hr => ?_⟩
          · have hcg : ∀ r, r < j + 1 → (fun r => if r = j then some (⟨wr.heap.size, 0, none⟩ : Addr) else A r) r = (fun r => if r = j then some (⟨wr.heap.size, 0, none⟩ : Addr) else A r) r ∧ (fun r => if r = j then m else (D r).length) r = (fun r => (D r).length) r := by
              intro r hr
              refine ⟨rfl, ?_⟩
              by_cases e : r = j
              · subst e
                simp only [if_true, Em.out]
              · simp only [if_neg e]
            have := og2.own
            rwa [heads_congr hcg] at this
          · by_cases e : r = j
            · subst e; exact ⟨_, if_pos rfl⟩
            · obtain ⟨y, hy⟩ := hsm r (by omega); exact ⟨y, (if_neg e).trans hy⟩
        case measure => simp [intOf]; omega
      · have e : j = dn := by omega
        subst e
        obtain ⟨pz, cz, rfl, gr⟩ := og.grid
        have nz : Nets wr pz j A (fun r => (D r).length) (fun r => List.replicate (D r).length 0) := ⟨gr, fun r hr => (by simp), fun r hr h => (by obtain ⟨y, hy⟩ := hsm r hr; rw [hy] at h; cases h), fun r hr => (by have := d.bnd r hr; simpa using this)⟩
        obtain ⟨q0, q1, q2, q3, q4, q5, hBr⟩ := cc wr hbr
        have cc' := fun (W : World) (hb : Below wr.heap.size wr W) => cc W (below_then hbr hb)
        clear og gr hsm cc
        rename World => Wl
        go_wp2_with (go_at_call 9; refine (k9 Wl _ _ A (r.below hBr) (u.below hBr) nz (x.below hBr)).mono ?_; rintro e W5 ⟨⟨p5, c5, rfl, f5⟩, d5⟩; obtain ⟨-, -, -, -, -, q5', hB5⟩ := cc' W5 d5; clear q0 q1 q2 q3 q4 q5 nz hBr k9 d5 cc')
        go_loopw [7] (fun i wr => ∃ q : Nat, q ≤ xn ∧ i = .int .i64 q ∧ wr = W5) (fun i _ => xn - (intOf i).toNat)
        case atStart => exact ⟨0, Nat.zero_le _, rfl, rfl⟩
        case round =>
          obtain ⟨q, hq, rfl, hw⟩ := hrel
          subst hw
          by_cases hltq : q < xn
          · obtain ⟨y5, rfl⟩ := f5.some_ (by omega)
            have cy := f5.cell y5 rfl q hltq
            rw [hz] at cy
            go_wp2
            go_roundw
            case rel => exact ⟨q + 1, by omega, by go_num, trivial⟩
            case measure => simp [intOf]; omega
          · have e : q = xn := by omega
            subst e
            go_wp2
            go_ret
            exact ⟨by simp, hB5⟩
  · have k9 := fun (W : World) p q A (h0 : Reads .i8 W ra rn rz) (g1 : Nets W ua un UA UC U) (g2 : Nets W p dn A (fun r => (D r).length) (fun r => List.replicate (D r).length 0)) (h5 : Reads .i64 W xa xn xz) => Mix_no ra rn rc rz ua un uc UA UC U p dn q A (fun r => (D r).length) (fun r => List.replicate (D r).length 0) h k xa xn xc xz W h0 rl g1 g2 h5 wh wk (by omega) (by omega) (by omega) hE
    obtain ⟨EE, eEE⟩ : ∃ EE, mixE rz un dn U (fun r => List.replicate (D r).length 0) h k xz = EE := ⟨_, rfl⟩
    rw [eEE] at k9 hE
    clear eEE
    have p2 : (EE == 0) = false := by simp [hE]
    have p3 : (EE != 0) = true := by simp [hE]
    clear hE
    go_enter Try.func7, Try.ntmps7
    go_wp2_with (first
      | (go_at_call 18; refine (works_call _).mono ?_; rintro e W0 ⟨rfl, d0⟩; obtain ⟨q0, q1, q2, q3, q4, q5, -⟩ := case_cells d0)
      | (go_at_call 8; refine (kg _).mono ?_; rintro e W1 ⟨rfl, d1'⟩; have d1 := below_then d0 d1'; clear d1' q0 q1 q2 q3 q4 q5; obtain ⟨q0, q1, q2, q3, q4, q5, hB1⟩ := case_cells d1))
    have cc := fun (W : World) (hb : Below W1.heap.size W1 W) => case_cells (below_then d1 hb)
    clear q0 q1 q2 q3 q4 q5 kg d0
    go_loopw [3, 4] (fun v i wr => ∃ j : Nat, j ≤ dn ∧ i = .int .i64 j ∧ Below W1.heap.size W1 wr ∧ ∃ A, OwnGridB W1.heap.size wr v j A (fun r => (D r).length) (fun r => List.replicate (D r).length 0) ∧ ∀ r, r < j → ∃ y, A r = some y) (fun _ i _ => dn - (intOf i).toNat)
    case atStart => exact ⟨0, Nat.zero_le _, rfl, Below.refl _ _, fun _ => none, OwnGridB.nil _ _ _ _ _, fun r h => by omega⟩
    case round =>
      obtain ⟨j, hj, rfl, hbr, A, og, hsm⟩ := hrel
      by_cases hlt : j < dn
      · obtain ⟨-, -, q2, -, -, -, hBr⟩ := cc wr hbr
        have dd := d.below hBr
        obtain ⟨ax, rfl⟩ := d.grid.some_ (by omega)
        have cx := dd.grid.cell ax rfl j hlt
        have gk := d.bnd j hlt
        have own := og.own
        have hsz := hbr.size
        obtain ⟨m, em⟩ : ∃ m, (D j).length = m := ⟨_, rfl⟩
        have Em : Hid ((D j).length = m) := em
        rw [em] at cx gk
        clear em dd
        go_wp2_with (first
          | (at_make; refine wpList_make_full _ rfl (.tmp 31) (.tmp 31) 22 rfl wr.heap.size 53 i0 (.int .i8 0) 1 Try.underlying22 hi hz0 hz1 .i64 .i64 _ _ m rfl rfl rfl rfl (by rw [hz2]; omega) (by unfold maxLen; omega) (Nat.le_refl _) ?_; intro w1 hown1 hgrow1; have r1 : Reads .i8 w1 (some ⟨wr.heap.size, 0, none⟩) m (List.replicate m 0) := own_reads_at hown1 (by simp) (fun z hz => by rw [List.eq_of_mem_replicate hz]; decide) (fun i hi' => by rw [made_small m i hi', nought_at m i hi']); have hb1 : Below wr.heap.size wr w1 := (Below.refl _ _).grown hgrow1 (Nat.le_refl _) (fun k h => by cases h); have own1 := own_below own hb1; have hb1' := below_then hbr hb1; clear hown1 hgrow1)
          | (at_builtin; refine wpList_append_where rfl (.tmp 25) (.tmp 33) 23 rfl W1.heap.size 22 j0 (.slice none 0 0) 24 Try.underlying23 hj0 hy0 hy1 hy2 rfl _ j _ rfl (own1.alloc _) ⟨_, 0, none⟩ 1 (.slice (some ⟨wr.heap.size, 0, none⟩) m m) rfl (one_new _ _ _) (slice_oneCell _ _ _) (by unfold maxLen; omega) (by omega) (below_new hb1' _).size ?_; intro v2 W2 ho2 hg2 hs2))
        go_roundw
        case rel =>
          have bn := below_new (Below.refl w1.heap.size w1) (Obj.cells #[Value.slice (some ⟨wr.heap.size, 0, none⟩) m m] 22)
          have og2 := ((og.below hb1).below bn).app (p := some ⟨wr.heap.size, 0, none⟩) (c := m) (V := .slice (some ⟨wr.heap.size, 0, none⟩) m m) (by simp [Em.out]) (by rw [List.length_replicate, Em.out]; exact r1.below bn) (fun _ y hy g hg e => by
            obtain rfl := Option.some.inj hy
            have l2 := (og.own.lt g hg).2
            have e' : wr.heap.size = g := e
            omega) ho2 hg2 hs2
          refine ⟨j + 1, by omega, by go_num, below_append (below_new hb1' _) (own1.alloc _) hg2, (fun r => if r = j then some ⟨wr.heap.size, 0, none⟩ else A r), ⟨?_, og2.row, og2.apart⟩, fun r hr => ?_⟩
          · have hcg : ∀ r, r < j + 1 → (fun r => if r = j then some (⟨wr.heap.size, 0, none⟩ : Addr) else A r) r = (fun r => if r = j then some (⟨wr.heap.size, 0, none⟩ : Addr) else A r) r ∧ (fun r => if r = j then m else (D r).length) r = (fun r => (D r).length) r := by
              intro r hr
              refine ⟨rfl, ?_⟩
              by_cases e : r = j
              · subst e
                simp only [if_true, Em.out]
              · simp only [if_neg e]
            have := og2.own
            rwa [heads_congr hcg] at this
          · by_cases e : r = j
            · subst e; exact ⟨_, if_pos rfl⟩
            · obtain ⟨y, hy⟩ := hsm r (by omega); exact ⟨y, (if_neg e).trans hy⟩
        case measure => simp [intOf]; omega
      · have e : j = dn := by omega
        subst e
        obtain ⟨pz, cz, rfl, gr⟩ := og.grid
        have nz : Nets wr pz j A (fun r => (D r).length) (fun r => List.replicate (D r).length 0) := ⟨gr, fun r hr => (by simp), fun r hr h => (by obtain ⟨y, hy⟩ := hsm r hr; rw [hy] at h; cases h), fun r hr => (by have := d.bnd r hr; simpa using this)⟩
        obtain ⟨q0, q1, q2, q3, q4, q5, hBr⟩ := cc wr hbr
        have cc' := fun (W : World) (hb : Below wr.heap.size wr W) => cc W (below_then hbr hb)
        clear og gr hsm cc
        rename World => Wl
        go_wp2_with (go_at_call 9; refine (k9 Wl _ _ A (r.below hBr) (u.below hBr) nz (x.below hBr)).mono ?_; rintro e W5 ⟨rfl, d5⟩; obtain ⟨-, -, -, -, -, -, hB5⟩ := cc' W5 d5; clear q0 q1 q2 q3 q4 q5 nz hBr k9 d5 cc')
        go_ret
        exact ⟨rfl, hB5⟩

theorem contract (H : Type) (enc : TypeId × Value → H) (W : World) (base : Nat) (args : Array Value) (ds gs : List (DataW H)) (before : List MemPlace)
    (hval0 : ∀ (j : Nat) t v, Try.f7.params[j]? = some t → args[j]? = some v → Value.okWide Try.prog W .any base t v)
    (hW : DataW.Whole enc Try.prog Try.f7.params.toList Rows.expertNoughtSpec.vars false W args.toList ds gs before)
    (hk : Rows.uptoSmall H (ds ++ gs) = true) :
    Calls Try.prog 7 args W fun e W' => ∃ v, e = .returned v ∧ Rows.expertNoughtSpec.post enc Try.prog Try.f7 false true false false W args v W' := by
  have hval : ∀ (j : Nat) t v, Try.f7.params[j]? = some t → args[j]? = some v → Value.okWide Try.prog W .any base t v := hval0
  have hW' := hW
  obtain ⟨p, q, hA0, hV, rfl, hfz, hnd⟩ := hW
  have hA : DataW.TrodAll enc Try.prog W 0 (fun _ => true) true Try.f7.params.toList args.toList ds p := hA0
  rw [Try.params7] at hA hval
  obtain ⟨v0, vs0, d0, ds0, p0, q0, hargs, rfl, rfl, h0, r0⟩ := trodAll_cons hA
  obtain ⟨rfl, rfl, rfl⟩ := trodAll_nil r0
  obtain rfl : args = #[v0] := by cases args; simp_all
  obtain ⟨rfl, rfl⟩ := trodVars_none hV
  have k0 := h0
  have lt0 : ∀ x ∈ p0, x.block < W.heap.size := by obtain ⟨m, hm⟩ := k0; exact DataW.trod_lt m _ _ _ hm
  have bk0 : Rows.uptoBulk d0 ≤ 1048576 := Nat.le_trans (bulk_member _ 0 d0 rfl) (of_decide_eq_true hk)
  obtain ⟨C0, rfl, w0⟩ := open_case (hval 0 26 v0 rfl rfl) h0 bk0
  clear hA0 hval0
  refine (walk C0 W w0).mono fun e W' ⟨he, bel⟩ => ?_
  subst he
  exact ⟨_, rfl, _, _, _, [], _, [], hW', trodAll_mk1 (shut_bool Try.underlying4 _), (trodAll_cons_mk (Below.trod laidOut (by kernel_rfl) (of_decide_eq_true (by kernel_rfl)) k0 bel lt0) trodAll_mk0), rfl, bel.frame _, fun h => by cases h⟩

set_option maxRecDepth 100000 in
theorem lifted (os : Os) (started : os.Started) (H : Type) (enc : TypeId × Value → H) (F : Stop.Interp) :
    ReturnsInHanded {} Try.checked os 7 .any ((Rows.OpenSpec.upto Rows.expertNoughtSpec).pre6 enc Try.prog Try.f7 Rows.expertNoughtUptoRow.domain false) (((Rows.OpenSpec.upto Rows.expertNoughtSpec).at F).post enc Try.prog Try.f7 false true false false) := by
  refine returnsInHanded_of_cond (C := Try.checked) (s := Rows.OpenSpec.upto Rows.expertNoughtSpec) (k := Rows.uptoSmall) rfl own started (by kernel_rfl) Try.func7
    (OpenSpec.witness (enc := enc) (C := Try.checked) (s := Rows.OpenSpec.upto Rows.expertNoughtSpec) (k := Rows.uptoSmall) rfl false ⟨#[], #[.agg #[.slice none 0 0, .slice none 0 0, .slice none 0 0, .int .i64 0, .int .i64 0, .slice none 0 0]], []⟩ 8 (by kernel_rfl) (by kernel_rfl) (by kernel_rfl)
      (x := ([.agg [.nil, .nil, .nil, .lit (.int .i64 0), .lit (.int .i64 0), .nil]], [], [])) (by kernel_rfl) rfl (by kernel_rfl)) ?_
  intro W base args ds gs before hval hW _ hk _
  exact contract H enc W base args ds gs before hval hW hk

theorem over : Rows.expertNoughtUptoRow.holds Try.pinned (Rows.OpenSpec.upto Rows.expertNoughtSpec) :=
  OpenClaim.holds_of_cond 7 Try.f7 rfl rfl rfl rfl rfl rfl rfl ⟨rfl, rfl, rfl, rfl, rfl⟩ rfl rfl rfl rfl rfl (by kernel_rfl) Try.func7 (by kernel_rfl)
    (of_decide_eq_true (by kernel_rfl)) (by unfold Func.isWrapper; first | (rw [if_pos (by decide +kernel)]; kernel_rfl) | (rw [if_neg (by decide +kernel)]; exact ⟨rfl, rfl⟩))
    (fun os started H enc _ F => lifted os started H enc F)

theorem proved : Rows.ExpertNoughtUptoSaid :=
  over
#print axioms proved
end Go.Proofs.Ytlpmndlefbghoaa.expertNought
