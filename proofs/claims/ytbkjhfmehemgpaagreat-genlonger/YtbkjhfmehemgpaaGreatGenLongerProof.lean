/- GenLonger: of Greedy and Sample a greater length begins with the same tokens, a stop that did not come changes nothing, and no more tokens come than the length, none behind the stop; of any case whose prompt holds at most a hundred tokens, and any stop. -/
import Derived.Test.YtbkjhfmehemgpaaGreatRows
import Derived.Test.YtbkjhfmehemgpaaGreatFa44
import Derived.Test.YtbkjhfmehemgpaaGreatFa45
import Derived.WalkKit
import Derived.ProofKit
import Derived.OpenShut
import Derived.ChangeOld
import Derived.Below
import Derived.WalkLawsBesides
import Derived.ChangeMaps5
import Derived.Deep.Cut
namespace Go.Proofs.YtbkjhfmehemgpaaGreat.genLonger
open Go.ChangeShapes Go.WideShapes Go.ChangeAt Go.RowKit
set_option linter.unusedVariables false
set_option linter.unusedSimpArgs false

theorem own : ownKnob Tryz.prog.godebug = none := by kernel_rfl
theorem laidOut : laidOutB Tryz.prog = true := by kernel_rfl


set_option maxHeartbeats 4000000 in
set_option maxRecDepth 20000 in
theorem walk (K0 : Kg) (z0 : List Int) (a1 : Int) (w : World) (w0 : KgAt w K0 z0) (w1 : (Lit.int .i64 a1).wf = true) :
    Calls Tryz.prog 5 #[K0.w, .int .i64 a1] w fun e w' => e = .returned (.bool true) ∧ Below w.heap.size w w' := by
  have hb := below_new (Below.refl w.heap.size w) (.cells K0.cs 30)
  have q0 : Blk 30 (w.alloc (.cells K0.cs 30)) w.heap.size K0.cs := Blk.new 30 w _
  have hk := w0.q.below hb
  have ws := w0.ws
  clear w0
  have wS := w1
  clear w1
  by_cases ok : okB K0.c.d K0.c.h K0.c.l K0.c.v K0.c.u K0.c.x K0.c.t K0.c.n = true
  case neg =>
    have km := Made_no K0 (by simpa using ok)
    clear ok hk
    go_enter Tryz.func5, Tryz.ntmps5
    go_upto_region 3 with (go_at_call 15; refine (works_call _).mono ?_; rintro e V1 ⟨rfl, h⟩; replace q0 := q0.kept h; replace hb := below_then hb h; clear h)
    refine wp_region_list ?_
    refine wpList_load_row rfl 30 (.tmp 2) rfl w.heap.size rfl 30 K0.cs (0,0) _ q0 Tryz.underlying30 rfl rfl ?_
    go_wp2_with (go_at_call 8; refine (km _).mono ?_; rintro e V2 ⟨⟨t, rfl⟩, h⟩; replace hb := below_new (below_new (below_then hb h) (.cells #[.int .i64 0, .int .i64 0, .int .i64 0, .int .i64 0, .int .i64 0, .int .i64 0, .int .i64 0, .int .i64 0, .slice t.E.a t.E.n t.E.c, .slice t.L.a t.L.n t.L.c, .slice t.N.a t.N.n t.N.c, .slice t.O.a t.O.n t.O.c] 34)) (.cells #[.int .i64 0, .int .i64 0, .slice none 0 0] 37); clear h km)
    go_ret
    exact ⟨rfl, hb⟩
  have km := Made_yes K0 ok ws
  clear ok
  go_enter Tryz.func5, Tryz.ntmps5
  go_upto_region 3 with (go_at_call 15; refine (works_call _).mono ?_; rintro e V1 ⟨rfl, h⟩; replace q0 := q0.kept h; replace hk := hk.below h; replace hb := below_then hb h; clear h)
  refine wp_region_list ?_
  refine wpList_load_row rfl 30 (.tmp 2) rfl w.heap.size rfl 30 K0.cs (0,0) _ q0 Tryz.underlying30 rfl rfl ?_
  go_upto_region 4 with (go_at_call 8; refine (km _).mono ?_; rintro e V2 ⟨⟨t, ta, rfl, hm, ha⟩, h⟩; have q5 : Blk 34 ((V2.alloc (.cells (K0.rq t ta.1).mc 34)).alloc (.cells (K0.rq t ta.1).ac 37)) V2.heap.size (K0.rq t ta.1).mc := (Blk.new 34 V2 _).kept (below_new (Below.refl _ _) _); have q6 : Blk 37 ((V2.alloc (.cells (K0.rq t ta.1).mc 34)).alloc (.cells (K0.rq t ta.1).ac 37)) (V2.heap.size + 1) (K0.rq t ta.1).ac := Blk.new_at 37 (V2.alloc _) _ _ (by simp); have hy : Below V2.heap.size V2 ((V2.alloc (.cells (K0.rq t ta.1).mc 34)).alloc (.cells (K0.rq t ta.1).ac 37)) := below_new (below_new (Below.refl _ _) _) _; replace q0 := (q0.kept h).kept hy; replace hk := (hk.below h).below hy; replace hb := below_then (below_then hb h) hy; have mo := (newM_now hm).below hy; have ao := (newA_now ha).below hy; obtain ⟨V3, e3⟩ : ∃ V3, (V2.alloc (.cells (K0.rq t ta.1).mc 34)).alloc (.cells (K0.rq t ta.1).ac 37) = V3 := ⟨_, rfl⟩; rw [e3] at q0 q5 q6 hk hb mo ao; have E3 := hidden_ e3; clear e3 hm ha h hy km)
  rw [E3.out]
  clear E3
  obtain ⟨g5, e5⟩ : ∃ g, V2.heap.size = g := ⟨_, rfl⟩
  rw [e5] at q5 q6 ⊢
  clear e5
  have c10 : V3.cell? ⟨w.heap.size, 10, none⟩ = some (.int .i64 K0.q.k) := q0.cell 10 rfl
  have c11 := q0.cell 11 rfl
  by_cases h100 : 100 < (K0.q.n : Int)
  · go_wp2
    go_ret
    exact ⟨rfl, hb⟩
  by_cases k3 : K0.q.k = 3
  · rw [k3] at c10
    go_wp2
    go_ret
    exact ⟨rfl, hb⟩
  have t3 : (K0.q.k == 3) = false := by simpa using k3
  go_upto_region 6 with fail
  have hk4 := ownAsk_call K0.q z0 V3 hk (by omega)
  have kf : ∀ (w : World) (a : Addr) (x : Nat) (m : Mode), (store a (.float .f64 x) m).run Tryz.prog w = stored Tryz.prog w a (.float .f64 x) m := fun w a x m => run_store Tryz.prog w a _ m rfl
  have c12 := q0.cell 12 rfl
  have c13 := q0.cell 13 rfl
  have c14 := q0.cell 14 rfl
  have c15 := q0.cell 15 rfl
  have c16 := q0.cell 16 rfl
  have c17 := q0.cell 17 rfl
  have c18 := q0.cell 18 rfl
  go_upto_region 7 with (go_at_call 12; refine hk4.mono ?_; rintro e V4 ⟨⟨p, C, rfl, hA⟩, h⟩; clear hk4 c10 c11 c12 c13 c14 c15 c16 c17 c18; replace q0 := q0.kept h; replace q5 := q5.kept h; replace q6 := q6.kept h; replace mo := mo.below h; replace ao := ao.below h; replace hb := below_then hb h; clear h hk)
  have hZ : Below V4.heap.size V4 (V4.alloc (.cells (K0.q.with p C).cs 28)) := below_new (Below.refl _ _) _
  have qG : Blk 28 (V4.alloc (.cells (K0.q.with p C).cs 28)) V4.heap.size (K0.q.with p C).cs := Blk.new 28 V4 _
  obtain ⟨V5, e5⟩ : ∃ V5, V4.alloc (.cells (K0.q.with p C).cs 28) = V5 := ⟨_, rfl⟩
  rw [e5] at hZ qG ⊢
  obtain ⟨g, eg⟩ : ∃ g, V4.heap.size = g := ⟨_, rfl⟩
  have lg : V4.heap.size ≤ g := by omega
  have gs : g < V5.heap.size := by rw [← e5, ← eg]; simp
  rw [eg] at qG ⊢
  clear eg e5 kf
  obtain ⟨E, eE⟩ : ∃ E, reqE (caseR K0 t ta.1 (K0.q.with p C)) z0 = E := ⟨_, rfl⟩
  obtain ⟨T, eT⟩ : ∃ T, ansT (caseR K0 t ta.1 (K0.q.with p C)) z0 [] = T := ⟨_, rfl⟩
  have kc := case_call K0 t ta.1 ta.2 (K0.q.with p C) z0 k3 _ (mo.below hZ) (ao.below hZ) ⟨hA.ws, hA.wL, hA.t.below hZ, hA.te, hA.tl⟩ T _ E eT rfl eE
  refine wp_region_list ?_
  refine wpList_load_row rfl 34 (.tmp 5) rfl g5 rfl 34 _ (0,0) _ (q5.kept hZ) Tryz.underlying34 rfl rfl ?_
  refine wpList_load_row rfl 37 (.tmp 6) rfl (g5 + 1) rfl 37 _ (0,0) _ (q6.kept hZ) Tryz.underlying37 rfl rfl ?_
  refine wpList_load_row rfl 28 (.tmp 8) rfl g rfl 28 _ (0,0) _ qG Tryz.underlying28 rfl rfl ?_
  go_upto_region 8 with (go_at_call 9; refine kc.mono ?_; rintro e Za ⟨⟨taa, tca, vaa, vca, rfl, rTa, rVa, xla, fra⟩, h'⟩; clear kc rVa; replace qG := qG.kept h'; replace hZ := below_then hZ h'; clear h')
  have c10 : Za.cell? ⟨g, 0, none⟩ = some (.int .i64 K0.q.k) := qG.cell 0 rfl
  by_cases hE : E = 0
  case neg =>
    have tE : (E != 0) = true := by simpa using hE
    obtain rfl : [] = T := (ans_no (.inl (by rw [eE]; exact hE))).symm.trans eT
    replace hb := below_then hb hZ
    clear eE eT
    go_wp2
    go_ret
    exact ⟨rfl, hb⟩
  subst hE
  by_cases k4 : K0.q.k = 4
  · rw [k4] at c10
    obtain rfl : [] = T := (ans_no (q := K0.q.with p C) (.inr k4)).symm.trans eT
    replace hb := below_then hb hZ
    clear eE eT
    go_wp2
    go_ret
    exact ⟨rfl, hb⟩
  have t4 : (K0.q.k == 4) = false := by simpa using k4
  have LS := long_law eE k4 k3
  rw [eT] at LS
  obtain ⟨R, eR⟩ : ∃ R, ansT (caseR K0 t ta.1 (askLS (K0.q.with p C) (K0.q.with p C).L (-1))) z0 [] = R := ⟨_, rfl⟩
  rw [eR] at LS
  have HL := hidden_ LS
  have l0 := LS.l0
  have l1 : (T.length : Int) ≤ K0.q.L := LS.l1
  have l2 : K0.q.L ≤ 24 := LS.l2
  clear LS
  obtain ⟨n, en⟩ : ∃ n, T.length = n := ⟨_, rfl⟩
  have RX := hidden_ rTa
  have EN := hidden_ en
  have FRA := hidden_ fra
  rw [en] at l0 l1 xla ⊢
  clear en rTa fra
  have c12 : Za.cell? ⟨g, 2, none⟩ = some (.int .i64 K0.q.L) := qG.cell 2 rfl
  have g1 : ¬ ((n : Int) < 1) := by omega
  have g2 : ¬ (K0.q.L < (n : Int)) := by omega
  go_upto_region 12 with fail
  have rx := RX.out
  clear RX
  obtain ⟨xa, rfl⟩ := rx.some_ (by rw [EN.out]; omega)
  have hx : g ≠ xa.block := by have := FRA.out xa rfl; omega
  clear FRA
  have hn := rx.max
  rw [EN.out] at hn
  go_wp2
  go_loopw [12] (fun i wr => ∃ k : Nat, k + 1 ≤ n ∧ i = .int .i64 k ∧ ∃ m, wr = Za.drewN m) (fun i _ => n - (intOf i).toNat)
  case atStart => exact ⟨0, by omega, rfl, 0, rfl⟩
  case round =>
    obtain ⟨k, hk, rfl, m, hw⟩ := hrel
    by_cases hlt : k + 1 < n
    · have cx : wr.cell? (xa.add k) = some (.int .i64 (T.getD k 0)) := by rw [hw]; exact rx.cell xa rfl k (by rw [EN.out]; omega)
      have cs : wr.cell? ⟨g, 3, none⟩ = some (.int .i64 K0.q.S) := by rw [hw]; exact qG.cell 3 rfl
      have hs : T.getD k 0 ≠ K0.q.S := HL.out.st k (by rw [EN.out]; exact hlt)
      have Hw : Hid (wr = Za.drewN m) := hw
      clear hw
      obtain ⟨X, eX⟩ : ∃ X, T.getD k 0 = X := ⟨_, rfl⟩
      rw [eX] at cx hs
      have ts : (X == K0.q.S) = false := by simpa using hs
      clear eX
      have lk : (k : Int) < (n : Int) - 1 := by omega
      have lk2 : (k : Int) < (n : Int) := by omega
      go_wp2
      go_quiet (fail)
      go_wp2
      go_roundw
      case rel => exact ⟨k + 1, by omega, by go_num, _, by rw [Hw.out, World.drewN_drewN]⟩
      case measure => simp [intOf]; omega
    have nl : ¬ ((k : Int) < (n : Int) - 1) := by omega
    have hd : Below Za.heap.size Za wr := below_drew (Below.refl _ _) ⟨m, hw⟩
    have qW := qG.kept hd
    have hW := below_then hZ hd
    have rW := rx.below hd
    clear hw hd c10 c12
    obtain ⟨L1, hL1⟩ : ∃ L1, K0.q.L + 1 = L1 := ⟨_, rfl⟩
    obtain ⟨Zb, eZ, qB, hB, rB⟩ : ∃ Zb, wr.setCell ⟨g, 2, none⟩ (.int .i64 L1) = Zb ∧ Blk 28 Zb g (askLS (K0.q.with p C) L1 K0.q.S).cs ∧ Below V4.heap.size V4 Zb ∧ Reads .i64 Zb (some xa) T.length T := ⟨_, rfl, qW.set 2 _, hW.setCell lg _, rW.setOff hx _⟩
    have x2 := qW.cell 2 rfl
    have f2 := qW.open_ 2
    have hS := hidden_ (And.intro qB (And.intro hB rB))
    clear qB hB rB qW hW rW rx qG hZ
    go_upto_region 18 with fail
    obtain ⟨qG, hZ, rx⟩ := hS.out
    clear hS x2 f2 eZ nl
    obtain ⟨E2, eE2⟩ : ∃ E, reqE (caseR K0 t ta.1 (askLS (K0.q.with p C) L1 K0.q.S)) z0 = E := ⟨_, rfl⟩
    obtain ⟨T2, eT2⟩ : ∃ T, ansT (caseR K0 t ta.1 (askLS (K0.q.with p C) L1 K0.q.S)) z0 [] = T := ⟨_, rfl⟩
    have wU : (Lit.int .i64 L1).wf = true := WalkArith.wf_i64 ⟨by omega, by omega⟩
    have kc := case_call K0 t ta.1 ta.2 (askLS (K0.q.with p C) L1 K0.q.S) z0 k3 _ (mo.below hZ) (ao.below hZ) ⟨hA.ws, wU, hA.t.below hZ, hA.te, hA.tl⟩ T2 _ E2 eT2 rfl eE2
    refine wp_region_list ?_
    refine wpList_load_row rfl 34 (.tmp 5) rfl g5 rfl 34 _ (0,0) _ (q5.kept hZ) Tryz.underlying34 rfl rfl ?_
    refine wpList_load_row rfl 37 (.tmp 6) rfl (g5 + 1) rfl 37 _ (0,0) _ (q6.kept hZ) Tryz.underlying37 rfl rfl ?_
    refine wpList_load_row rfl 28 (.tmp 8) rfl g rfl 28 _ (0,0) _ qG Tryz.underlying28 rfl rfl ?_
    go_upto_region 19 with (go_at_call 9; refine kc.mono ?_; rintro e Zb ⟨⟨tab, tcb, vab, vcb, rfl, rTb, rVb, xlb, frb⟩, h'⟩; clear kc rVb; replace qG := qG.kept h'; replace hZ := below_then hZ h'; replace rx := rx.below h'; clear h')
    have rx' : Reads .i64 Zb (some xa) n T := by rw [← EN.out]; exact rx
    clear rx
    refine wp_region_of [103, 104, 105, 106, 107, 108, 109, 110, 111, 112, 113, 114, 115, 116, 117, 118, 119, 120] (fun f U => f 120 = .bool false ∧ Below Zb.heap.size Zb U) ?walk ?rest
    case walk =>
      clear qG hZ
      by_cases h2 : E2 = 0
      · subst h2
        obtain ⟨r, er⟩ := HL.out.up (by rw [← eE2, ← hL1])
        have er2 : T2 = T ++ r := by rw [← er, ← eT2, ← hL1]
        obtain ⟨m2, em2⟩ : ∃ m2, T2.length = m2 := ⟨_, rfl⟩
        have hm : n ≤ m2 := by rw [← em2, er2, ← EN.out]; simp
        rw [em2] at rTb xlb ⊢
        obtain ⟨y, rfl⟩ := rTb.some_ (by omega)
        have rY : Reads .i64 Zb (some y) n T := reads_first rTb hm (by rw [er2, ← EN.out]; simp)
        clear er er2 rTb em2
        have z1 : (n : Int) ≤ (tcb : Int) := by omega
        have z2 : ¬ ((m2 : Int) < (n : Int)) := by omega
        have z3 : (0 : Int) ≤ (n : Int) := by omega
        go_wp2_with (go_at_call 14; refine (same_ints (some y) n tcb T (some xa) n tca _ rY rx').mono ?_; rintro e U ⟨rfl, h'⟩; clear rY rx')
        exact RegEnd.of (by kernel_rfl) ⟨by kernel_rfl, h'⟩
      · have z1 : (E2 == 0) = false := by simpa using h2
        go_wp2
        exact RegEnd.of (by kernel_rfl) ⟨by kernel_rfl, Below.refl _ _⟩
    case rest =>
      rintro f U ⟨f1, h'⟩
      simp only [List.foldl, f1, Act.put, List.setIfInBounds_toArray, List.set_cons_succ, List.set_cons_zero]
      clear f1
      replace qG := qG.kept h'
      replace hZ := below_then hZ h'
      replace rx' := rx'.below h'
      clear h' rTb
      have hL2 : L1 - 1 = K0.q.L := by omega
      obtain ⟨Zd, eZ, qD, hD, rD⟩ : ∃ Zd, (U.setCell ⟨g, 2, none⟩ (.int .i64 K0.q.L)).setCell ⟨g, 3, none⟩ (.int .i64 (-1)) = Zd ∧ Blk 28 Zd g (askLS (K0.q.with p C) K0.q.L (-1)).cs ∧ Below V4.heap.size V4 Zd ∧ Reads .i64 Zd (some xa) n T := ⟨_, rfl, (qG.set 2 _).set 3 _, (hZ.setCell lg _).setCell lg _, (rx'.setOff hx _).setOff hx _⟩
      have x2 := qG.cell 2 rfl
      have x3 := qG.cell 3 rfl
      have f2 := qG.open_ 2
      have f3 := qG.open_ 3
      have hS := hidden_ (And.intro qD (And.intro hD rD))
      clear qD hD rD qG hZ rx'
      go_upto_region 23 with fail
      obtain ⟨qG, hZ, rx'⟩ := hS.out
      have gd := qG.lt
      clear hS x2 x3 f2 f3 eZ
      have kc := case_call K0 t ta.1 ta.2 (askLS (K0.q.with p C) K0.q.L (-1)) z0 k3 _ (mo.below hZ) (ao.below hZ) ⟨hA.ws, hA.wL, hA.t.below hZ, hA.te, hA.tl⟩ R _ 0 eR rfl HL.out.nE
      refine wp_region_list ?_
      refine wpList_load_row rfl 34 (.tmp 5) rfl g5 rfl 34 _ (0,0) _ (q5.kept hZ) Tryz.underlying34 rfl rfl ?_
      refine wpList_load_row rfl 37 (.tmp 6) rfl (g5 + 1) rfl 37 _ (0,0) _ (q6.kept hZ) Tryz.underlying37 rfl rfl ?_
      refine wpList_load_row rfl 28 (.tmp 8) rfl g rfl 28 _ (0,0) _ qG Tryz.underlying28 rfl rfl ?_
      go_upto_region 24 with (go_at_call 9; refine kc.mono ?_; rintro e Zc ⟨⟨tac, tcc, vac, vcc, rfl, rTc, rVc, xlc, frc⟩, h'⟩; clear kc rVc; replace qG := qG.kept h'; replace hZ := below_then hZ h'; replace rx' := rx'.below h'; clear h')
      obtain ⟨m3, em3⟩ : ∃ m3, R.length = m3 := ⟨_, rfl⟩
      have nl3 : (m3 : Int) = K0.q.L := by rw [← em3]; exact HL.out.nl
      obtain ⟨r3, er3⟩ := HL.out.nR
      have hm3 : n ≤ m3 := by omega
      rw [em3] at rTc xlc ⊢
      obtain ⟨za, rfl⟩ := rTc.some_ (by omega)
      have hz : g ≠ za.block := by have := frc za rfl; omega
      have rY : Reads .i64 Zc (some za) n T := reads_first rTc hm3 (by rw [er3, ← EN.out]; simp)
      have q3 : ((m3 : Int) != K0.q.L) = false := by simp [nl3]
      have c2 : Zc.cell? ⟨g, 2, none⟩ = some (.int .i64 K0.q.L) := qG.cell 2 rfl
      have z1 : (n : Int) ≤ (tcc : Int) := by omega
      have z3 : (0 : Int) ≤ (n : Int) := by omega
      have NL := hidden_ nl3
      clear er3 frc nl3
      go_upto_region 26 with (go_at_call 14; refine (same_ints (some za) n tcc T (some xa) n tca _ rY rx').mono ?_; rintro e U2 ⟨rfl, h'⟩; replace qG := qG.kept h'; replace hZ := below_then hZ h'; have rz := rTc.below h'; clear h' rY rx' c2)
      have hm := rz.max
      go_wp2
      go_loopw [19] (fun i wr => ∃ k : Nat, k ≤ m3 ∧ i = .int .i64 k ∧ wr = U2 ∧ ∀ j, j < k → R.getD j 0 ≠ a1) (fun i _ => m3 - (intOf i).toNat)
      case atStart => exact ⟨0, Nat.zero_le _, rfl, rfl, fun j h => by omega⟩
      case round =>
        obtain ⟨k2, hk2, rfl, rfl, hns⟩ := hrel
        by_cases hlt : k2 < m3
        · have cz := rz.cell za rfl k2 hlt
          obtain ⟨X, eX⟩ : ∃ X, R.getD k2 0 = X := ⟨_, rfl⟩
          rw [eX] at cz
          have HX := hidden_ eX
          clear eX
          have lk : (k2 : Int) < (m3 : Int) := by omega
          by_cases hX : X = a1
          · have ts : (X == a1) = true := by simpa using hX
            replace hb := below_then hb hZ
            go_wp2
            go_ret
            exact ⟨rfl, hb⟩
          · have ts : (X == a1) = false := by simpa using hX
            go_wp2
            go_roundw
            case rel => exact ⟨k2 + 1, by omega, by go_num, by first | rfl | trivial, fun j hj => by
              by_cases h : j = k2
              · subst h; rw [HX.out]; exact hX
              · exact hns j (by omega)⟩
            case measure => simp [intOf]; omega
        have e : k2 = m3 := by omega
        subst e
        have nlk : ¬ ((k2 : Int) < (k2 : Int)) := by omega
        have hfree : a1 ∉ R := by
          intro hmem
          obtain ⟨j, hj, e⟩ := List.getElem_of_mem hmem
          exact hns j (by omega) (by simp [List.getD, hj, e])
        obtain ⟨Ze, eZ, qE, hE, rE⟩ : ∃ Ze, wr.setCell ⟨g, 3, none⟩ (.int .i64 a1) = Ze ∧ Blk 28 Ze g (askLS (K0.q.with p C) K0.q.L a1).cs ∧ Below V4.heap.size V4 Ze ∧ Reads .i64 Ze (some za) R.length R := ⟨_, rfl, qG.set 3 _, hZ.setCell lg _, by rw [em3]; exact rz.setOff hz _⟩
        have x3 := qG.cell 3 rfl
        have f3 := qG.open_ 3
        have hS := hidden_ (And.intro qE (And.intro hE rE))
        clear qE hE rE qG hZ rz
        go_upto_region 32 with fail
        obtain ⟨qG, hZ, rz⟩ := hS.out
        clear hS x3 f3 eZ nlk
        by_cases hv : a1 < K0.c.v
        · obtain ⟨e4, t4'⟩ := HL.out.fr a1 hfree hv
          have kc := case_call K0 t ta.1 ta.2 (askLS (K0.q.with p C) K0.q.L a1) z0 k3 _ (mo.below hZ) (ao.below hZ) ⟨hA.ws, hA.wL, hA.t.below hZ, hA.te, hA.tl⟩ R _ 0 t4' rfl e4
          refine wp_region_list ?_
          refine wpList_load_row rfl 34 (.tmp 5) rfl g5 rfl 34 _ (0,0) _ (q5.kept hZ) Tryz.underlying34 rfl rfl ?_
          refine wpList_load_row rfl 37 (.tmp 6) rfl (g5 + 1) rfl 37 _ (0,0) _ (q6.kept hZ) Tryz.underlying37 rfl rfl ?_
          refine wpList_load_row rfl 28 (.tmp 8) rfl g rfl 28 _ (0,0) _ qG Tryz.underlying28 rfl rfl ?_
          go_upto_region 33 with (go_at_call 9; refine kc.mono ?_; rintro e Zd ⟨⟨tad, tcd, vad, vcd, rfl, rTd, rVd, xld, frd⟩, h'⟩; clear kc rVd; replace qG := qG.kept h'; replace hZ := below_then hZ h'; replace rz := rz.below h'; clear h')
          replace hb := below_then hb hZ
          rw [em3] at rTd rz
          go_wp2_with (go_at_call 14; refine (same_ints tad _ tcd R (some za) _ tcc _ rTd rz).mono ?_; rintro e U3 ⟨rfl, h'⟩; replace hb := below_then hb h'; clear h' rTd rz)
          go_ret
          exact ⟨rfl, hb⟩
        · have e4 := HL.out.ov a1 (by omega)
          have t4' : ansT (caseR K0 t ta.1 (askLS (K0.q.with p C) K0.q.L a1)) z0 [] = [] := ans_no (.inl (by rw [e4]; decide))
          have kc := case_call K0 t ta.1 ta.2 (askLS (K0.q.with p C) K0.q.L a1) z0 k3 _ (mo.below hZ) (ao.below hZ) ⟨hA.ws, hA.wL, hA.t.below hZ, hA.te, hA.tl⟩ [] _ 1 t4' rfl e4
          refine wp_region_list ?_
          refine wpList_load_row rfl 34 (.tmp 5) rfl g5 rfl 34 _ (0,0) _ (q5.kept hZ) Tryz.underlying34 rfl rfl ?_
          refine wpList_load_row rfl 37 (.tmp 6) rfl (g5 + 1) rfl 37 _ (0,0) _ (q6.kept hZ) Tryz.underlying37 rfl rfl ?_
          refine wpList_load_row rfl 28 (.tmp 8) rfl g rfl 28 _ (0,0) _ qG Tryz.underlying28 rfl rfl ?_
          go_upto_region 33 with (go_at_call 9; refine kc.mono ?_; rintro e Zd ⟨⟨tad, tcd, vad, vcd, rfl, rTd, rVd, xld, frd⟩, h'⟩; clear kc rVd; replace qG := qG.kept h'; replace hZ := below_then hZ h'; replace rz := rz.below h'; clear h')
          have cv := (q0.kept hZ).cell 3 rfl
          have hv' : K0.c.v ≤ a1 := by omega
          replace hb := below_then hb hZ
          go_wp2
          go_ret
          exact ⟨rfl, hb⟩

set_option maxRecDepth 100000 in
theorem contract (H : Type) (enc : TypeId × Value → H) (W : World) (base : Nat) (args : Array Value) (ds gs : List (DataW H)) (before : List MemPlace)
    (hval0 : ∀ (j : Nat) t v, Tryz.f5.params[j]? = some t → args[j]? = some v → Value.okWide Tryz.prog W .any base t v)
    (hW : DataW.Whole enc Tryz.prog Tryz.f5.params.toList Rows.genLongerSpec.vars false W args.toList ds gs before) :
    Calls Tryz.prog 5 args W fun e W' => ∃ v, e = .returned v ∧ Rows.genLongerSpec.post enc Tryz.prog Tryz.f5 false true false false W args v W' := by
  have hval : ∀ (j : Nat) t v, Tryz.f5.params[j]? = some t → args[j]? = some v → Value.okWide Tryz.prog W .any base t v := hval0
  have hW' := hW
  obtain ⟨p, q, hA0, hV, rfl, hfz, hnd⟩ := hW
  have hA : DataW.TrodAll enc Tryz.prog W 0 (fun _ => true) true Tryz.f5.params.toList args.toList ds p := hA0
  rw [Tryz.params5] at hA hval
  obtain ⟨v0, vs0, d0, ds0, p0, q0, hargs, rfl, rfl, h0, r0⟩ := trodAll_cons hA
  obtain ⟨v1, vs1, d1, ds1, p1, q1, rfl, rfl, rfl, h1, r1⟩ := trodAll_cons r0
  obtain ⟨rfl, rfl, rfl⟩ := trodAll_nil r1
  obtain rfl : args = #[v0, v1] := by cases args; simp_all
  obtain ⟨rfl, rfl⟩ := trodVars_none hV
  have k0 := h0
  have lt0 : ∀ x ∈ p0, x.block < W.heap.size := by obtain ⟨m, hm⟩ := k0; exact DataW.trod_lt m _ _ _ hm
  obtain ⟨K0, z0, rfl, w0⟩ := open_kg (hval 0 30 v0 rfl rfl) h0
  obtain ⟨a1, rfl, rfl, rfl, w1⟩ := open_int Tryz.underlying3 (hval 1 3 v1 rfl rfl) h1
  clear hA0 hval0
  refine (walk K0 z0 a1 W w0 w1).mono fun e W' ⟨he, bel⟩ => ?_
  subst he
  exact ⟨_, rfl, _, _, _, [], _, [], hW', trodAll_mk1 (shut_bool Tryz.underlying4 _), (trodAll_cons_mk (Below.trod laidOut (by kernel_rfl) (of_decide_eq_true (by kernel_rfl)) k0 bel lt0) (trodAll_cons_mk (shut_int Tryz.underlying3 w1) trodAll_mk0)), rfl, bel.frame _, fun h => by cases h⟩

set_option maxRecDepth 100000 in
theorem lifted (os : Os) (started : os.Started) (H : Type) (enc : TypeId × Value → H) :
    ReturnsInHanded {} Tryz.checked os 5 .any (Rows.genLongerSpec.pre6 enc Tryz.prog Tryz.f5 Rows.genLongerRow.domain false) (Rows.genLongerSpec.post enc Tryz.prog Tryz.f5 false true false false) := by
  refine returnsInHanded_of_change (C := Tryz.checked) own started (by kernel_rfl) Tryz.func5
    (ChangeSpec.witness6 (enc := enc) (C := Tryz.checked) false ⟨#[], #[.agg #[.int .i64 0, .int .i64 0, .int .i64 0, .int .i64 0, .int .i64 0, .int .i64 0, .int .i64 0, .int .i64 0, .int .u64 0, .int .i64 0, .int .i64 0, .slice none 0 0, .int .i64 0, .int .i64 0, .int .u64 0, .int .i64 0, .float .f64 0, .int .i64 0, .int .i64 0], .int .i64 0], []⟩ 8 (by kernel_rfl) (by kernel_rfl) (by kernel_rfl) (by kernel_rfl)) ?_
  intro W base args ds gs before hval hW _ _
  exact contract H enc W base args ds gs before hval hW

theorem over : Rows.genLongerRow.holds Tryz.pinned (OpenSpec.ofChange Rows.genLongerSpec) :=
  OpenClaim.holds_of_wide 5 Tryz.f5 rfl rfl rfl rfl rfl rfl rfl ⟨rfl, rfl, rfl, rfl, rfl⟩ rfl rfl rfl rfl rfl (by kernel_rfl) Tryz.func5 (by kernel_rfl)
    (of_decide_eq_true (by kernel_rfl)) (by unfold Func.isWrapper; first | (rw [if_pos (by decide +kernel)]; kernel_rfl) | (rw [if_neg (by decide +kernel)]; exact ⟨rfl, rfl⟩))
    (fun os started H enc _ => lifted os started H enc)

theorem proved : Rows.GenLongerSaid :=
  over
#print axioms proved
end Go.Proofs.YtbkjhfmehemgpaaGreat.genLonger
