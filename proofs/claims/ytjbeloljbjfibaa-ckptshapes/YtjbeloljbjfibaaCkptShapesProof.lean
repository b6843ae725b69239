/- CkptShapes: weights of the right count are shaped, and are the model's in the same order; one fewer or more is refused. -/
import Derived.Test.YtjbeloljbjfibaaRows
import Derived.Test.YtjbeloljbjfibaaLayer8
import Derived.Test.YtjbeloljbjfibaaConf
import Derived.Test.YtjbeloljbjfibaaCfgRef
import Derived.Test.YtjbeloljbjfibaaBlank
import Derived.Test.YtjbeloljbjfibaaSize
import Derived.Test.YtjbeloljbjfibaaSizes
import Derived.Test.YtjbeloljbjfibaaOpenCfg
import Derived.Test.YtjbeloljbjfibaaSteps
import Derived.Test.YtjbeloljbjfibaaClo54
import Derived.Test.YtjbeloljbjfibaaFill
import Derived.Test.YtjbeloljbjfibaaMods
import Derived.Test.YtjbeloljbjfibaaFills
import Derived.Test.YtjbeloljbjfibaaShape
import Derived.Test.YtjbeloljbjfibaaShapes
import Derived.Test.YtjbeloljbjfibaaCheck
import Derived.Test.YtjbeloljbjfibaaChecks
import Derived.Test.YtjbeloljbjfibaaDims
import Derived.Test.YtjbeloljbjfibaaFlat
import Derived.Test.YtjbeloljbjfibaaNumbers
import Derived.Test.YtjbeloljbjfibaaPrefix
import Derived.Test.YtjbeloljbjfibaaBody
import Derived.Test.YtjbeloljbjfibaaDecode
import Derived.Test.YtjbeloljbjfibaaTrips
import Derived.Test.YtjbeloljbjfibaaEqWorks
import Derived.Test.YtjbeloljbjfibaaCuts
import Derived.Test.YtjbeloljbjfibaaSeeds
import Derived.Test.YtjbeloljbjfibaaInv
import Derived.Test.YtjbeloljbjfibaaMore
import Derived.Test.YtjbeloljbjfibaaLess
import Derived.WalkKit
import Derived.ProofKit
import Derived.OpenShut
import Derived.ChangeOld
import Derived.Below
import Derived.WalkLawsBesides
import Derived.ChangeMaps5
import Derived.Deep.RegionHeld3
import Derived.Deep.RegionWith
import Derived.Deep.QuietTactic
import Derived.BigQuiet
import Derived.Deep.OwnRows
namespace Go.Proofs.Ytjbeloljbjfibaa.ckptShapes
open Go.ChangeShapes Go.WideShapes Go.ChangeAt Go.RowKit
set_option linter.unusedVariables false
set_option linter.unusedSimpArgs false

theorem own : ownKnob Try.prog.godebug = none := by kernel_rfl
theorem laidOut : laidOutB Try.prog = true := by kernel_rfl



set_option maxHeartbeats 8000000 in
set_option maxRecDepth 20000 in
theorem walk (cd0 ch0 cl0 cv0 cu0 cx0 ct0 cn0 : Int) (a1 : Int) (w : World)  (w1 : (Lit.int .u64 a1).wf = true) :
    Calls Try.prog 7 #[.agg #[.int .i64 cd0, .int .i64 ch0, .int .i64 cl0, .int .i64 cv0, .int .i64 cu0, .int .i64 cx0, .int .i64 ct0, .int .i64 cn0], .int .u64 a1] w fun e w' => e = .returned (.bool true) ∧ Below w.heap.size w w' := by
  have k26 := works_call
  have k11 := size_call cd0 ch0 cl0 cv0 cu0 cx0 ct0 cn0
  have k12 := refSize_call cd0 ch0 cl0 cv0 cu0 cx0 ct0 cn0
  have hb0 := below_new (Below.refl w.heap.size w) (.cells #[.int .i64 cd0, .int .i64 ch0, .int .i64 cl0, .int .i64 cv0, .int .i64 cu0, .int .i64 cx0, .int .i64 ct0, .int .i64 cn0] 23)
  have q0 := hidden_ (Blk.new 23 w #[.int .i64 cd0, .int .i64 ch0, .int .i64 cl0, .int .i64 cv0, .int .i64 cu0, .int .i64 cx0, .int .i64 ct0, .int .i64 cn0])
  cases ok : okB cd0 ch0 cl0 cv0 cu0 cx0 ct0 cn0 with
  | false =>
    have ez : sizeB cd0 ch0 cl0 cv0 cu0 cx0 ct0 cn0 = 0 := by unfold sizeB; rw [ok]; rfl
    simp only [ez] at k11 k12
    have k24 := shape_bad cd0 ch0 cl0 cv0 cu0 cx0 ct0 cn0 ok
    clear ok ez
    go_enter Try.func7, Try.ntmps7
    go_wp2_with (first
      | (go_at_call 26; refine (k26 _).mono ?_; rintro e W1 ⟨rfl, h1⟩; have q1 := q0.out.kept h1; replace hb0 := below_then hb0 h1; clear h1; obtain ⟨c0, c1, c2, c3, c4, c5, c6, c7⟩ := q1.cfg)
      | (go_at_call 11; refine (k11 _).mono ?_; rintro e W2 ⟨rfl, h2⟩; replace q1 := q1.kept h2; replace hb0 := below_then hb0 h2; clear h2 c0 c1 c2 c3 c4 c5 c6 c7; obtain ⟨c0, c1, c2, c3, c4, c5, c6, c7⟩ := q1.cfg)
      | (go_at_call 12; refine (k12 _).mono ?_; rintro e W3 ⟨rfl, h3⟩; replace q1 := q1.kept h3; replace hb0 := below_then hb0 h3; clear h3 c0 c1 c2 c3 c4 c5 c6 c7; obtain ⟨c0, c1, c2, c3, c4, c5, c6, c7⟩ := q1.cfg))
    refine wp_loop_rounds 1 ?_
    rw [rounds_succ]
    go_wp2_with (first
      | (go_at_call 24; refine (k24 _ _ _ _).mono ?_; rintro e W4 ⟨rfl, h4⟩; replace q1 := q1.kept h4; replace hb0 := below_then hb0 h4; clear h4))
    obtain ⟨W5, e5⟩ : ∃ W5, W4.alloc (.cells #[.int .i64 0, .int .i64 0, .int .i64 0, .int .i64 0, .int .i64 0, .int .i64 0, .int .i64 0, .int .i64 0, nilS, nilS, nilS, nilS] 29) = W5 := ⟨_, rfl⟩
    have n5 : Below W4.heap.size W4 W5 := by rw [← e5]; exact below_new (Below.refl _ _) _
    rw [e5]
    replace q1 := q1.kept n5
    replace hb0 := below_then hb0 n5
    clear n5 e5 c0 c1 c2 c3 c4 c5 c6 c7
    refine more_region (.agg #[.int .i64 cd0, .int .i64 ch0, .int .i64 cl0, .int .i64 cv0, .int .i64 cu0, .int .i64 cx0, .int .i64 ct0, .int .i64 cn0]) ⟨none, 0, 0⟩ [] 20 w.heap.size (by kernel_rfl) rfl ⟨_, rfl, rfl, rfl, rfl, by kernel_rfl⟩ ⟨_, rfl, rfl, rfl, rfl, by kernel_rfl⟩ ⟨_, rfl, rfl, rfl, rfl, by kernel_rfl⟩ ⟨_, rfl, rfl, rfl, rfl, by kernel_rfl⟩ ⟨_, rfl, rfl, rfl, rfl, by kernel_rfl⟩ ⟨_, rfl, rfl, rfl, rfl, by kernel_rfl⟩ ⟨_, rfl, rfl, rfl, rfl, by kernel_rfl⟩ ⟨_, rfl, rfl, rfl, rfl, by kernel_rfl⟩ ⟨_, rfl, rfl, rfl, rfl, by kernel_rfl⟩ ⟨_, rfl, rfl, rfl, rfl, by kernel_rfl⟩ ⟨_, rfl, rfl, rfl, rfl, by kernel_rfl⟩ ⟨_, rfl, rfl, rfl, rfl, by kernel_rfl⟩ ⟨_, rfl, rfl, rfl, rfl, by kernel_rfl⟩ (fun W sa c => k24 sa (0 + 1) c W) (fun W hb => run_load23 (q1.kept hb)) rfl rfl (IsS.none_ _) (by decide) (Nat.le_of_ble_eq_true rfl) ?_
    intro a W6 hs hd hk h11 hb6
    have ep := frame_puts [10, 11, 42, 43, 44, 45, 46, 47, 48, 49, 50, 51] hs hd (fun s h => hk s (fun i hi e => h (by
      rcases (show i = 0 ∨ i = 1 ∨ i = 2 ∨ i = 3 ∨ i = 4 ∨ i = 5 ∨ i = 6 ∨ i = 7 ∨ i = 8 ∨ i = 9 ∨ i = 10 ∨ i = 11 ∨ i = 12 by omega) with rfl | rfl | rfl | rfl | rfl | rfl | rfl | rfl | rfl | rfl | rfl | rfl | rfl <;> simp [moreD] at e <;> simp [← e])))
    simp only [List.foldl, h11] at ep
    clear hs hd hk h11
    generalize a.tmps.getD 10 undef = u10 at ep
    generalize a.tmps.getD 42 undef = u42 at ep
    generalize a.tmps.getD 43 undef = u43 at ep
    generalize a.tmps.getD 44 undef = u44 at ep
    generalize a.tmps.getD 45 undef = u45 at ep
    generalize a.tmps.getD 46 undef = u46 at ep
    generalize a.tmps.getD 47 undef = u47 at ep
    generalize a.tmps.getD 48 undef = u48 at ep
    generalize a.tmps.getD 49 undef = u49 at ep
    generalize a.tmps.getD 50 undef = u50 at ep
    generalize a.tmps.getD 51 undef = u51 at ep
    subst ep
    replace hb0 := below_then hb0 hb6
    clear hb6 k24 k26 k11 k12
    go_wp2
    go_ret
    exact ⟨rfl, hb0⟩
  | true =>
    have dm := dims_of ok
    have few := size_few ok
    have sz := dm.sz
    have sz0 := dm.sz0
    have es : sizeB cd0 ch0 cl0 cv0 cu0 cx0 ct0 cn0 = szZ cd0 cl0 cv0 cu0 cx0 := by unfold sizeB; rw [ok]; rfl
    obtain ⟨n, en⟩ : ∃ n, offs (cntOf cd0 cl0 cv0 cu0 cx0) (allT cl0 cx0) = n := ⟨_, rfl⟩
    have ez : sizeB cd0 ch0 cl0 cv0 cu0 cx0 ct0 cn0 = (n : Int) := by omega
    simp only [ez] at k11 k12
    have hlen := (drawnL_length a1 n).trans en.symm
    have k24 := fun W xa c (rd : Reads .i8 W (some xa) n (drawnL a1 n)) hc => shape_good cd0 ch0 cl0 cv0 cu0 cx0 ct0 cn0 ok xa n c (drawnL a1 n) W rd hc (by omega)
    have k24m := fun (W : World) (sa : Option Addr) (c : Nat) => shape_len cd0 ch0 cl0 cv0 cu0 cx0 ct0 cn0 ok sa (n + 1) c (by omega) W
    obtain ⟨m, em⟩ : ∃ m, n = m + 1 := ⟨n - 1, by omega⟩
    have k24l := fun (W : World) (sa : Option Addr) (c : Nat) => shape_len cd0 ch0 cl0 cv0 cu0 cx0 ct0 cn0 ok sa m c (by omega) W
    have k16 : ∀ (E L N O : SL) (Y U D : Nat → Nat → SL) (W : World), ModAt W E L N O Y U D (shapeV cd0 cl0 cv0 cu0 cx0 (drawnL a1 n)) → Calls Try.prog 16 #[.agg #[.int .i64 cd0, .int .i64 ch0, .int .i64 cl0, .int .i64 cv0, .int .i64 cu0, .int .i64 cx0, .int .i64 ct0, .int .i64 cn0, .slice E.a E.n E.c, .slice L.a L.n L.c, .slice N.a N.n N.c, .slice O.a O.n O.c]] W fun e w' => e = .returned (.int .i64 0) ∧ Below W.heap.size W w' := fun E L N O Y U D W hM => by
      have := check_call cd0 ch0 cl0 cv0 cu0 cx0 ct0 cn0 E L N O Y U D _ W hM
      rwa [shape_checked ok (drawnL a1 n) hlen] at this
    have k19 : ∀ (E L N O : SL) (Y U D : Nat → Nat → SL) (W : World), ModAt W E L N O Y U D (shapeV cd0 cl0 cv0 cu0 cx0 (drawnL a1 n)) → Calls Try.prog 19 #[.agg #[.int .i64 cd0, .int .i64 ch0, .int .i64 cl0, .int .i64 cv0, .int .i64 cu0, .int .i64 cx0, .int .i64 ct0, .int .i64 cn0, .slice E.a E.n E.c, .slice L.a L.n L.c, .slice N.a N.n N.c, .slice O.a O.n O.c]] W fun e w' => ∃ s : SL, e = .returned (.slice s.a s.n s.c) ∧ IsS w' s (drawnL a1 n) ∧ Below W.heap.size W w' := fun E L N O Y U D W hM => by
      have := flat_call cd0 ch0 cl0 cv0 cu0 cx0 ct0 cn0 E L N O Y U D _ W hM
      rwa [shape_checked ok (drawnL a1 n) hlen, if_pos rfl, shape_flat (drawnL a1 n) hlen] at this
    obtain ⟨i0, hi, hz0, hz1, hz2⟩ := info_parts info46
    have hnn : (n : Int) ≤ 1896 := by omega
    have hn1 : n ≤ 1896 := by omega
    have hn0 : 0 < n := by omega
    have hne : ((n : Int) == 0) = false := by simp; omega
    have EM := hidden_ em
    clear few sz sz0 es ez hlen dm en ok em
    go_enter Try.func7, Try.ntmps7
    go_wp2_with (first
      | (go_at_call 26; refine (k26 _).mono ?_; rintro e W1 ⟨rfl, h1⟩; have q1 := q0.out.kept h1; replace hb0 := below_then hb0 h1; clear h1; obtain ⟨c0, c1, c2, c3, c4, c5, c6, c7⟩ := q1.cfg)
      | (go_at_call 11; refine (k11 _).mono ?_; rintro e W2 ⟨rfl, h2⟩; replace q1 := q1.kept h2; replace hb0 := below_then hb0 h2; clear h2 c0 c1 c2 c3 c4 c5 c6 c7; obtain ⟨c0, c1, c2, c3, c4, c5, c6, c7⟩ := q1.cfg)
      | (go_at_call 12; refine (k12 _).mono ?_; rintro e W3 ⟨rfl, h3⟩; replace q1 := q1.kept h3; replace hb0 := below_then hb0 h3; clear h3 c0 c1 c2 c3 c4 c5 c6 c7))
    have s2 := hb0.size
    clear k26 k11 k12
    go_loopw [1, 6, 7] (fun s v i wr => ∃ k : Nat, k ≤ n ∧ i = .int .i64 k ∧ s = .int .u64 (sd a1 k) ∧ Below W3.heap.size W3 wr ∧ wr.ownsRow W3.heap.size 46 1 v k (gath (drawn a1) .i8 k)) (fun _ _ i _ => n - (intOf i).toNat)
    case atStart => exact ⟨0, Nat.zero_le _, rfl, rfl, Below.refl _ _, World.ownsRow_nil _ _ _ _⟩
    case round =>
      obtain ⟨k, hk, rfl, rfl, hbr, ho⟩ := hrel
      by_cases hlt : k < n
      · have hsz := hbr.size
        obtain ⟨s, eSd⟩ : ∃ s, sd a1 k = s := ⟨_, rfl⟩
        obtain ⟨M1, e1⟩ : ∃ z, IntKind.u64.wrap (s * 6364136223846793005) = z := ⟨_, rfl⟩
        obtain ⟨M2, e2⟩ : ∃ z, IntKind.u64.wrap (M1 + 1442695040888963407) = z := ⟨_, rfl⟩
        obtain ⟨M3, e3⟩ : ∃ z, M2 / 72057594037927936 = z := ⟨_, rfl⟩
        have Es : Hid (sd a1 (k + 1) = M2) := by show lcg (sd a1 k) = M2; unfold lcg; rw [eSd, e1, e2]
        have Ez : Hid (i8 M3 = drawn a1 k) := by unfold drawn; rw [Es.out, e3]; exact rfl
        have hw8 := wrap_i8 M3
        rw [eSd]
        clear eSd hne
        go_wp2_with (first
          | (at_builtin; refine wpList_append_own _ rfl (.tmp 30) (.tmp 34) 26 rfl W3.heap.size 46 i0 (.int .i8 0) 1 1 Try.underlying26 hi hz0 hz1 hz2 rfl (by decide) _ _ _ rfl (ho.alloc _) ⟨_, 0, none⟩ 1 1 [.int .i8 (i8 M3)] rfl rfl (one_new _ _ _) (one_oneCell _ _) (by unfold maxLen; omega) (by omega) (by simp; omega) ?_; intro v' w2 ho' hg _))
        go_roundw
        case rel => exact ⟨k + 1, by omega, by go_num, by rw [Es.out], append_step hsz Ez.out hbr ho ho' hg⟩
        case measure => simp [intOf]; omega
      · have e : n = k := by omega
        subst e
        obtain ⟨a, c, rfl, hre⟩ := own_reads (k := .i8) (zs := drawnL a1 n) ho (drawnL_length _ _) (drawnL_wf _ _) (fun j hj => by rw [gath_at _ _ _ _ hj, drawnL_at _ _ _ hj])
        obtain ⟨hcap, hnil⟩ := own_cap ho
        have hcm : c ≤ 9223372036854775807 := by
          rcases ho.2 with ⟨h, h'⟩ | ⟨g, cap, cur, h, _, _, _, hm, _⟩
          · omega
          · simp only [Value.slice.injEq] at h
            unfold maxLen at hm
            omega
        obtain ⟨xa, rfl⟩ := hre.some_ hn0
        replace q1 := q1.kept hbr
        replace hb0 := below_then hb0 hbr
        obtain ⟨c0, c1, c2, c3, c4, c5, c6, c7⟩ := q1.cfg
        have k24' := k24 wr xa c hre hcap
        have hS : IsS wr ⟨some xa, n, c⟩ (drawnL a1 n) := ⟨hre, hnil, hcap⟩
        clear ho hbr k24 hre hcap s2 hz0 hz1 hz2 hi hnil
        go_wp2_with (first
          | (go_at_call 24; refine k24'.mono ?_; rintro e W4 ⟨E, L, N, O, Y, U', D', rfl, hM, h4⟩; replace q1 := q1.kept h4; replace hb0 := below_then hb0 h4; replace hS := hS.below h4; clear h4 k24' c0 c1 c2 c3 c4 c5 c6 c7))
        have q8 := Blk.new 29 W4 #[.int .i64 cd0, .int .i64 ch0, .int .i64 cl0, .int .i64 cv0, .int .i64 cu0, .int .i64 cx0, .int .i64 ct0, .int .i64 cn0, .slice E.a E.n E.c, .slice L.a L.n L.c, .slice N.a N.n N.c, .slice O.a O.n O.c]
        obtain ⟨W5, e5⟩ : ∃ W5, W4.alloc (.cells #[.int .i64 cd0, .int .i64 ch0, .int .i64 cl0, .int .i64 cv0, .int .i64 cu0, .int .i64 cx0, .int .i64 ct0, .int .i64 cn0, .slice E.a E.n E.c, .slice L.a L.n L.c, .slice N.a N.n N.c, .slice O.a O.n O.c] 29) = W5 := ⟨_, rfl⟩
        have n5 : Below W4.heap.size W4 W5 := by rw [← e5]; exact below_new (Below.refl _ _) _
        rw [e5] at q8 ⊢
        replace q1 := q1.kept n5
        replace hb0 := below_then hb0 n5
        replace hS := hS.below n5
        replace hM := (hM.below n5).at_
        clear n5 e5
        refine more_region (.agg #[.int .i64 cd0, .int .i64 ch0, .int .i64 cl0, .int .i64 cv0, .int .i64 cu0, .int .i64 cx0, .int .i64 ct0, .int .i64 cn0]) ⟨some xa, n, c⟩ (drawnL a1 n) 21 w.heap.size (by kernel_rfl) rfl ⟨_, rfl, rfl, rfl, rfl, by kernel_rfl⟩ ⟨_, rfl, rfl, rfl, rfl, by kernel_rfl⟩ ⟨_, rfl, rfl, rfl, rfl, by kernel_rfl⟩ ⟨_, rfl, rfl, rfl, rfl, by kernel_rfl⟩ ⟨_, rfl, rfl, rfl, rfl, by kernel_rfl⟩ ⟨_, rfl, rfl, rfl, rfl, by kernel_rfl⟩ ⟨_, rfl, rfl, rfl, rfl, by kernel_rfl⟩ ⟨_, rfl, rfl, rfl, rfl, by kernel_rfl⟩ ⟨_, rfl, rfl, rfl, rfl, by kernel_rfl⟩ ⟨_, rfl, rfl, rfl, rfl, by kernel_rfl⟩ ⟨_, rfl, rfl, rfl, rfl, by kernel_rfl⟩ ⟨_, rfl, rfl, rfl, rfl, by kernel_rfl⟩ ⟨_, rfl, rfl, rfl, rfl, by kernel_rfl⟩ k24m (fun W hb => run_load23 (q1.kept hb)) rfl rfl hS (by rw [drawnL_length]; omega) (Nat.le_of_ble_eq_true rfl) ?_
        intro a W6 hs hd hk h11 hb6
        have ep := frame_puts [10, 11, 42, 43, 44, 45, 46, 47, 48, 49, 50, 51] hs hd (fun s h => hk s (fun i hi e => h (by
          rcases (show i = 0 ∨ i = 1 ∨ i = 2 ∨ i = 3 ∨ i = 4 ∨ i = 5 ∨ i = 6 ∨ i = 7 ∨ i = 8 ∨ i = 9 ∨ i = 10 ∨ i = 11 ∨ i = 12 by omega) with rfl | rfl | rfl | rfl | rfl | rfl | rfl | rfl | rfl | rfl | rfl | rfl | rfl <;> simp [moreD] at e <;> simp [← e])))
        simp only [List.foldl, h11] at ep
        clear hs hd hk h11
        generalize a.tmps.getD 10 undef = u10 at ep
        generalize a.tmps.getD 42 undef = u42 at ep
        generalize a.tmps.getD 43 undef = u43 at ep
        generalize a.tmps.getD 44 undef = u44 at ep
        generalize a.tmps.getD 45 undef = u45 at ep
        generalize a.tmps.getD 46 undef = u46 at ep
        generalize a.tmps.getD 47 undef = u47 at ep
        generalize a.tmps.getD 48 undef = u48 at ep
        generalize a.tmps.getD 49 undef = u49 at ep
        generalize a.tmps.getD 50 undef = u50 at ep
        generalize a.tmps.getD 51 undef = u51 at ep
        subst ep
        replace q1 := q1.kept hb6
        replace q8 := q8.kept hb6
        replace hb0 := below_then hb0 hb6
        replace hS := hS.below hb6
        replace hM := hM.below hb6
        clear hb6 k24m
        go_wp2
        refine less_region (.agg #[.int .i64 cd0, .int .i64 ch0, .int .i64 cl0, .int .i64 cv0, .int .i64 cu0, .int .i64 cx0, .int .i64 ct0, .int .i64 cn0]) xa m c 21 w.heap.size (by kernel_rfl) rfl ⟨_, rfl, rfl, rfl, rfl, by kernel_rfl⟩ ⟨_, rfl, rfl, rfl, rfl, by kernel_rfl⟩ ⟨_, rfl, rfl, rfl, rfl, by kernel_rfl⟩ ⟨_, rfl, rfl, rfl, rfl, by kernel_rfl⟩ ⟨_, rfl, rfl, rfl, rfl, by kernel_rfl⟩ ⟨_, rfl, rfl, rfl, rfl, by kernel_rfl⟩ ⟨_, rfl, rfl, rfl, rfl, by kernel_rfl⟩ ⟨_, rfl, rfl, rfl, rfl, by kernel_rfl⟩ ⟨_, rfl, rfl, rfl, rfl, by kernel_rfl⟩ ⟨_, rfl, rfl, rfl, rfl, by kernel_rfl⟩ k24l (fun W hb => run_load23 (q1.kept hb)) rfl (by rw [← EM.out]; rfl) (by have := EM.out; have : n ≤ c := hS.cap; omega) hcm (Nat.le_of_ble_eq_true rfl) ?_
        intro a W7 hs hd hk h13 hb7
        have ep := frame_puts [12, 13, 60, 61, 62, 63, 64, 65, 66] hs hd (fun s h => hk s (fun i hi e => h (by
          rcases (show i = 0 ∨ i = 1 ∨ i = 2 ∨ i = 3 ∨ i = 4 ∨ i = 5 ∨ i = 6 ∨ i = 7 ∨ i = 8 ∨ i = 9 by omega) with rfl | rfl | rfl | rfl | rfl | rfl | rfl | rfl | rfl | rfl <;> simp [lessD] at e <;> simp [← e])))
        simp only [List.foldl, h13] at ep
        clear hs hd hk h13
        generalize a.tmps.getD 12 undef = u12 at ep
        generalize a.tmps.getD 60 undef = u60 at ep
        generalize a.tmps.getD 61 undef = u61 at ep
        generalize a.tmps.getD 62 undef = u62 at ep
        generalize a.tmps.getD 63 undef = u63 at ep
        generalize a.tmps.getD 64 undef = u64 at ep
        generalize a.tmps.getD 65 undef = u65 at ep
        generalize a.tmps.getD 66 undef = u66 at ep
        subst ep
        replace q8 := q8.kept hb7
        replace hb0 := below_then hb0 hb7
        replace hS := hS.below hb7
        replace hM := hM.below hb7
        clear hb7 k24l q1 hcm hne
        obtain ⟨b0, b1, b2, b3, b4, b5, b6, b7, b8, b9, b10, b11⟩ := q8.c12
        go_wp2_with (first
          | (go_at_call 16; refine (k16 E L N O Y U' D' _ hM).mono ?_; rintro e W8 ⟨rfl, h8⟩; replace q8 := q8.kept h8; replace hb0 := below_then hb0 h8; replace hS := hS.below h8; replace hM := hM.below h8; clear h8 b0 b1 b2 b3 b4 b5 b6 b7 b8 b9 b10 b11 k16; obtain ⟨b0, b1, b2, b3, b4, b5, b6, b7, b8, b9, b10, b11⟩ := q8.c12)
          | (go_at_call 19; refine (k19 E L N O Y U' D' _ hM).mono ?_; rintro e W9 ⟨s, rfl, hs9, h9⟩; replace hb0 := below_then hb0 h9; replace hS := hS.below h9; clear h9 b0 b1 b2 b3 b4 b5 b6 b7 b8 b9 b10 b11 k19 q8 hM)
          | (go_at_call 18; refine (same_call s.a s.n s.c (drawnL a1 n) (some xa) n c _ hs9.reads hS.reads).mono ?_; rintro e W10 ⟨rfl, hw⟩; replace hb0 := below_drew hb0 hw; clear hw))
        go_ret
        exact ⟨rfl, hb0⟩

theorem contract (H : Type) (enc : TypeId × Value → H) (W : World) (base : Nat) (args : Array Value) (ds gs : List (DataW H)) (before : List MemPlace)
    (hval0 : ∀ (j : Nat) t v, Try.f7.params[j]? = some t → args[j]? = some v → Value.okWide Try.prog W .any base t v)
    (hW : DataW.Whole enc Try.prog Try.f7.params.toList Rows.ckptShapesSpec.vars false W args.toList ds gs before) :
    Calls Try.prog 7 args W fun e W' => ∃ v, e = .returned v ∧ Rows.ckptShapesSpec.post enc Try.prog Try.f7 false true false false W args v W' := by
  have hval : ∀ (j : Nat) t v, Try.f7.params[j]? = some t → args[j]? = some v → Value.okWide Try.prog W .any base t v := hval0
  have hW' := hW
  obtain ⟨p, q, hA0, hV, rfl, hfz, hnd⟩ := hW
  have hA : DataW.TrodAll enc Try.prog W 0 (fun _ => true) true Try.f7.params.toList args.toList ds p := hA0
  rw [Try.params7] at hA hval
  obtain ⟨v0, vs0, d0, ds0, p0, q0, hargs, rfl, rfl, h0, r0⟩ := trodAll_cons hA
  obtain ⟨v1, vs1, d1, ds1, p1, q1, rfl, rfl, rfl, h1, r1⟩ := trodAll_cons r0
  obtain ⟨rfl, rfl, rfl⟩ := trodAll_nil r1
  obtain rfl : args = #[v0, v1] := by cases args; simp_all
  obtain ⟨rfl, rfl⟩ := trodVars_none hV
  have k0 := h0
  have lt0 : ∀ x ∈ p0, x.block < W.heap.size := by obtain ⟨m, hm⟩ := k0; exact DataW.trod_lt m _ _ _ hm
  obtain ⟨cd0, ch0, cl0, cv0, cu0, cx0, ct0, cn0, rfl⟩ := open_cfg (hval 0 23 v0 rfl rfl) h0
  obtain ⟨a1, rfl, rfl, rfl, w1⟩ := open_int Try.underlying45 (hval 1 45 v1 rfl rfl) h1
  clear hA0 hval0
  refine (walk cd0 ch0 cl0 cv0 cu0 cx0 ct0 cn0 a1 W  w1).mono fun e W' ⟨he, bel⟩ => ?_
  subst he
  exact ⟨_, rfl, _, _, _, [], _, [], hW', trodAll_mk1 (shut_bool Try.underlying4 _), (trodAll_cons_mk (Below.trod laidOut (by kernel_rfl) (of_decide_eq_true (by kernel_rfl)) k0 bel lt0) (trodAll_cons_mk (shut_int Try.underlying45 w1) trodAll_mk0)), rfl, bel.frame _, fun h => by cases h⟩

set_option maxRecDepth 100000 in
theorem lifted (os : Os) (started : os.Started) (H : Type) (enc : TypeId × Value → H) :
    ReturnsInHanded {} Try.checked os 7 .any (Rows.ckptShapesSpec.pre6 enc Try.prog Try.f7 Rows.ckptShapesRow.domain false) (Rows.ckptShapesSpec.post enc Try.prog Try.f7 false true false false) := by
  refine returnsInHanded_of_change (C := Try.checked) own started (by kernel_rfl) Try.func7
    (ChangeSpec.witness6 (enc := enc) (C := Try.checked) false ⟨#[], #[.agg #[.int .i64 0, .int .i64 0, .int .i64 0, .int .i64 0, .int .i64 0, .int .i64 0, .int .i64 0, .int .i64 0], .int .u64 0], []⟩ 8 (by kernel_rfl) (by kernel_rfl) (by kernel_rfl) (by kernel_rfl)) ?_
  intro W base args ds gs before hval hW _ _
  exact contract H enc W base args ds gs before hval hW

theorem over : Rows.ckptShapesRow.holds Try.pinned (OpenSpec.ofChange Rows.ckptShapesSpec) :=
  OpenClaim.holds_of_wide 7 Try.f7 rfl rfl rfl rfl rfl rfl rfl ⟨rfl, rfl, rfl, rfl, rfl⟩ rfl rfl rfl rfl rfl (by kernel_rfl) Try.func7 (by kernel_rfl)
    (of_decide_eq_true (by kernel_rfl)) (by unfold Func.isWrapper; first | (rw [if_pos (by decide +kernel)]; kernel_rfl) | (rw [if_neg (by decide +kernel)]; exact ⟨rfl, rfl⟩))
    (fun os started H enc _ => lifted os started H enc)

theorem proved : Rows.CkptShapesSaid :=
  over
#print axioms proved
end Go.Proofs.Ytjbeloljbjfibaa.ckptShapes
