/- For every row of at most 1000 weights and two rows of as many numbers: turned round alike, weights and numbers have the same sum of products, and the sum of products of two rows of numbers (each taken modulo 2^20) does not hang on which is the first, without an error; for all others nothing is asked but the examples. -/
import Derived.Test.YtnanhiifeihaaaaRows
import Derived.Test.YtnanhiifeihaaaaSat
import Derived.Test.YtnanhiifeihaaaaSatRef
import Derived.Test.YtnanhiifeihaaaaAdds
import Derived.Test.YtnanhiifeihaaaaView
import Derived.Test.YtnanhiifeihaaaaOwn
import Derived.Test.YtnanhiifeihaaaaDots
import Derived.Test.YtnanhiifeihaaaaDotsRef
import Derived.Test.YtnanhiifeihaaaaScale
import Derived.Test.YtnanhiifeihaaaaFits
import Derived.Test.YtnanhiifeihaaaaMats
import Derived.Test.YtnanhiifeihaaaaWorks
import Derived.Test.YtnanhiifeihaaaaPlain
import Derived.Test.YtnanhiifeihaaaaWhere
import Derived.Test.YtnanhiifeihaaaaQuad
import Derived.WalkKit
import Derived.Deep.RegionLaw
import Derived.ProofKit
import Derived.OpenShut
import Derived.ChangeOld
import Derived.Below
import Derived.WalkLawsBesides
namespace Go.Proofs.Ytnanhiifeihaaaa.vecTurns
open Go.ChangeShapes Go.WideShapes Go.ChangeAt Go.RowKit
set_option linter.unusedVariables false
set_option linter.unusedSimpArgs false

theorem own : ownKnob Try.prog.godebug = none := by kernel_rfl
theorem laidOut : laidOutB Try.prog = true := by kernel_rfl

def turnF (z : List Int) (n j : Nat) : Int := z.getD (n - 1 - j) 0
def turnR (z : List Int) (n j : Nat) : Int := (z.getD (n - 1 - j) 0).tmod 1048576

theorem rest_bounds (x : Int) : -1048576 < x.tmod 1048576 ∧ x.tmod 1048576 < 1048576 := by
  rw [Int.tmod_eq_emod]
  split <;> omega

theorem map_at (F : Nat → Int) (n j : Nat) : ((List.range n).map F).getD j 0 = if j < n then F j else 0 := by
  by_cases h : j < n <;> simp [List.getD, h]

theorem dot_turned (z y : List Int) (n : Nat) (hl : z.length = n) (hn : n ≤ 1000) (hz : ∀ i, (clampZ (z.getD i 0)).natAbs ≤ 128) :
    dotZ ((List.range n).map (turnF z n)) ((List.range n).map (turnF y n)) 6 = dotZ z y 6 := by
  have z0 : (clampZ 0).natAbs = 0 := by decide
  have b1 := prodF_bound z y 128 2147483648 hz (fun i => clampZ_abs _)
  have b2 := prodF_bound ((List.range n).map (turnF z n)) ((List.range n).map (turnF y n)) 128 2147483648
    (fun i => by rw [map_at]; split; exact hz _; omega) (fun i => clampZ_abs _)
  have e1 := sumZ_plain z y _ b1 n (by omega) (by omega) n (Nat.le_refl _)
  have e2 := sumZ_plain _ _ _ b2 n (by omega) (by omega) n (Nat.le_refl _)
  unfold dotZ
  rw [hl, show ((List.range n).map (turnF z n)).length = n by simp, e1, e2, ← plainS_turn n (prodF z y)]
  rw [plainS_congr _ (fun j => prodF z y (n - 1 - j)) n fun i hi => by unfold prodF; rw [map_at, map_at, if_pos hi, if_pos hi]; rfl]

theorem drew_trans {a b c : World} (h : ∃ m, b = a.drewN m) (k : ∃ m, c = b.drewN m) : ∃ m, c = a.drewN m := by
  obtain ⟨m, rfl⟩ := h
  obtain ⟨m', rfl⟩ := k
  exact ⟨m + m', by rw [World.drewN_drewN]⟩

theorem sum_symm (a b : List Int) (k : Nat) : sumZ a b k = sumZ b a k := by
  induction k with
  | zero => rfl
  | succ k ih =>
    show addZ (sumZ a b k) (clampZ (a.getD k 0) * clampZ (b.getD k 0)) = addZ (sumZ b a k) (clampZ (b.getD k 0) * clampZ (a.getD k 0))
    rw [ih, Int.mul_comm]

theorem dot_symm (a b : List Int) (bits : Int) (h : a.length = b.length) : dotZ a b bits = dotZ b a bits := by
  unfold dotZ
  rw [sum_symm, h]

set_option maxHeartbeats 8000000 in
theorem walk_same (a0 : Option Addr) (n c0 : Nat) (z0 : List Int) (a1 : Option Addr) (c1 : Nat) (z1 : List Int) (a2 : Option Addr) (c2 : Nat) (z2 : List Int) (w : World)
    (w0 : Reads .i8 w a0 n z0) (w1 : Reads .i64 w a1 n z1) (w2 : Reads .i64 w a2 n z2) (hn : n ≤ 1000) :
    Calls Try.prog 7 #[.slice a0 n c0, .slice a1 n c1, .slice a2 n c2] w fun e w' => e = .returned (.bool true) ∧ Below w.heap.size w w' := by
  have hm := w0.max
  obtain ⟨i0, hi, hz0, hz1, hz2⟩ := info_parts info2
  obtain ⟨j0, hj, hy0, hy1, hy2⟩ := info_parts info38
  go_enter Try.func7, Try.ntmps7
  go_wp2_with (go_at_call 20; refine (works_call _).mono ?_; rintro e W1 ⟨rfl, hb1⟩)
  go_loopw [7, 8, 9, 10, 11] (fun p q r s i wr => ∃ k : Nat, k ≤ n ∧ i = .int .i64 ((n : Int) - 1 - (k : Int)) ∧ Below w.heap.size w wr ∧ Quad w.heap.size wr ⟨38, p, k, gath (turnF z0 n) .i8 k⟩ ⟨2, q, k, gath (turnF z1 n) .i64 k⟩ ⟨2, r, k, gath (turnR z1 n) .i64 k⟩ ⟨2, s, k, gath (turnR z2 n) .i64 k⟩)
    (fun _ _ _ _ i _ => (intOf i + 1).toNat)
  case atStart => exact ⟨0, Nat.zero_le _, by simp, hb1, Quad.nil _ _ _ _ _ _ _ _ _ _ rfl rfl rfl rfl⟩
  case round =>
    obtain ⟨k, hk, rfl, hbr, hq⟩ := hrel
    by_cases hlt : k < n
    · obtain ⟨J, hJ⟩ : ∃ J : Nat, J + k + 1 = n := ⟨n - 1 - k, by omega⟩
      have eJ : (n : Int) - 1 - (k : Int) = (J : Int) := by omega
      rw [eJ]
      obtain ⟨x0, rfl⟩ := w0.some_ (by omega)
      obtain ⟨x1, rfl⟩ := w1.some_ (by omega)
      obtain ⟨x2, rfl⟩ := w2.some_ (by omega)
      obtain ⟨A0, eA0⟩ : ∃ A, z0.getD J 0 = A := ⟨_, rfl⟩
      obtain ⟨A1, eA1⟩ : ∃ A, z1.getD J 0 = A := ⟨_, rfl⟩
      obtain ⟨A2, eA2⟩ : ∃ A, z2.getD J 0 = A := ⟨_, rfl⟩
      have C0 : ∀ W, Below w.heap.size w W → W.cell? (x0.add J) = some (.int .i8 A0) := fun W hb => by rw [← eA0]; exact (w0.below hb).cell x0 rfl J (by omega)
      have C1 : ∀ W, Below w.heap.size w W → W.cell? (x1.add J) = some (.int .i64 A1) := fun W hb => by rw [← eA1]; exact (w1.below hb).cell x1 rfl J (by omega)
      have C2 : ∀ W, Below w.heap.size w W → W.cell? (x2.add J) = some (.int .i64 A2) := fun W hb => by rw [← eA2]; exact (w2.below hb).cell x2 rfl J (by omega)
      obtain ⟨V1, eV1⟩ : ∃ V, A1.tmod 1048576 = V := ⟨_, rfl⟩
      obtain ⟨V2, eV2⟩ : ∃ V, A2.tmod 1048576 = V := ⟨_, rfl⟩
      have E0 : Hid (A0 = turnF z0 n k) := by show _ = _; unfold turnF; rw [show n - 1 - k = J by omega, eA0]
      have E1 : Hid (A1 = turnF z1 n k) := by show _ = _; unfold turnF; rw [show n - 1 - k = J by omega, eA1]
      have E2 : Hid (V1 = turnR z1 n k) := by show _ = _; unfold turnR; rw [show n - 1 - k = J by omega, eA1, eV1]
      have E3 : Hid (V2 = turnR z2 n k) := by show _ = _; unfold turnR; rw [show n - 1 - k = J by omega, eA2, eV2]
      have c0 := C0 _ hbr
      have hsz := hbr.size
      have hJn : (J : Int) < (n : Int) := by omega
      clear eA0 eA1 eA2 w0 w1 w2 hb1 eJ C0
      go_wp2_with (first
        | (at_builtin; refine wpList_append_where rfl (.tmp 46) (.tmp 51) 22 rfl w.heap.size 38 j0 (.int .i8 0) 1 Try.underlying22 hj hy0 hy1 hy2 rfl _ k _ rfl (hq.oa.alloc _) ⟨_, 0, none⟩ 1 (.int .i8 A0) rfl (one_new _ _ _) (one_oneCell _ _) (by unfold maxLen; omega) (by omega) (by simp; omega) ?_; intro p' W4 ho4 hg4 hs4; have hb4 := below_append (below_new hbr _) (hq.oa.alloc _) hg4; have hq4 := ((hq.alloc _).app ho4 hg4 hs4).rot; have c4 := C1 W4 hb4; have hsz4 := hb4.size; clear ho4 hg4 hs4 hq)
        | (at_builtin; refine wpList_append_where rfl (.tmp 53) (.tmp 58) 23 rfl w.heap.size 2 i0 (.int .i64 0) 8 Try.underlying23 hi hz0 hz1 hz2 rfl _ k _ rfl (hq4.oa.alloc _) ⟨_, 0, none⟩ 1 (.int .i64 A1) rfl (one_new _ _ _) (one_oneCell _ _) (by unfold maxLen; omega) (by omega) (by simp; omega) ?_; intro q' W5 ho5 hg5 hs5; have hb5 := below_append (below_new hb4 _) (hq4.oa.alloc _) hg5; have hq5 := ((hq4.alloc _).app ho5 hg5 hs5).rot; have c51 := C1 W5 hb5; have c52 := C2 W5 hb5; have d51 := fun o => C1 _ (below_new hb5 o); have d52 := fun o => C2 _ (below_new hb5 o); have hsz5 := hb5.size; clear ho5 hg5 hs5 hq4))
      go_region_law (first
        | (with_reducible show if Region.wanted _ _ = true then Oper.wp _ { dst := some 67, op := _, type := _, pos := _, after := _, guard := _ } _ (World.drew (World.alloc W5 _)) _ _ else _; refine step_append_where rfl (.tmp 60) (.tmp 66) 23 rfl w.heap.size 2 i0 (.int .i64 0) 8 Try.underlying23 hi hz0 hz1 hz2 rfl _ k _ (by simp [Act.eval, Act.put]) (hq5.alloc _).drew.oa ⟨W5.heap.size, 0, none⟩ 1 (.int .i64 V1) (by simp [Act.eval, Act.put]) (one_newD _ _ _) (one_oneCell _ _) (by unfold maxLen; omega) (by omega) (size_newD _ _ _ hsz5) ?_; intro r' W6 ho6 hg6 hs6; have hb6 := below_append (below_new hb5 _).drew (hq5.alloc _).drew.oa hg6; have hq6 := ((hq5.alloc _).drew.app ho6 hg6 hs6).rot; have c62 := C2 W6 hb6; have hsz6 := hb6.size; clear ho6 hg6 hs6)
        | (with_reducible show if Region.wanted _ _ = true then Oper.wp _ { dst := some 67, op := _, type := _, pos := _, after := _, guard := _ } _ (World.drew (World.alloc (World.alloc W5 (Obj.cells #[.int .i64 V2] 2)) _)) _ _ else _; refine step_append_where rfl (.tmp 60) (.tmp 66) 23 rfl w.heap.size 2 i0 (.int .i64 0) 8 Try.underlying23 hi hz0 hz1 hz2 rfl _ k _ (by simp [Act.eval, Act.put]) ((hq5.alloc _).alloc _).drew.oa ⟨W5.heap.size + 1, 0, none⟩ 1 (.int .i64 V1) (by simp [Act.eval, Act.put]) (one_newBD _ _ _ _) (one_oneCell _ _) (by unfold maxLen; omega) (by omega) (below_new (below_new hb5 _) _).drew.size ?_; intro r' W6 ho6 hg6 hs6; have hb6 := below_append (below_new (below_new hb5 _) _).drew ((hq5.alloc _).alloc _).drew.oa hg6; have hq6 := (((hq5.alloc _).alloc _).drew.app ho6 hg6 hs6).rot; have N2 := new_kept hg6 (g := W5.heap.size) (fun g h => by have := (hq5.oa.lt g h).2; omega) (one_newAD W5 (.int .i64 V2) 2 _); have hsz6 := hb6.size; clear ho6 hg6 hs6)
        | (with_reducible show if Region.wanted _ _ = true then Oper.wp _ { dst := some 67, op := _, type := _, pos := _, after := _, guard := _ } _ (World.drew (World.alloc (World.alloc W5 (Obj.cells #[.int .i64 V1] 2)) _)) _ _ else _; refine step_append_where rfl (.tmp 60) (.tmp 66) 23 rfl w.heap.size 2 i0 (.int .i64 0) 8 Try.underlying23 hi hz0 hz1 hz2 rfl _ k _ (by simp [Act.eval, Act.put]) ((hq5.alloc _).alloc _).drew.oa ⟨W5.heap.size, 0, none⟩ 1 (.int .i64 V1) (by simp [Act.eval, Act.put]) (one_newAD _ _ _ _) (one_oneCell _ _) (by unfold maxLen; omega) (by omega) (below_new (below_new hb5 _) _).drew.size ?_; intro r' W6 ho6 hg6 hs6; have hb6 := below_append (below_new (below_new hb5 _) _).drew ((hq5.alloc _).alloc _).drew.oa hg6; have hq6 := (((hq5.alloc _).alloc _).drew.app ho6 hg6 hs6).rot; have N2 := new_kept hg6 (g := W5.heap.size + 1) (fun g h => by have := (hq5.oa.lt g h).2; omega) (one_newBD W5 (.int .i64 V2) 2 _); have hsz6 := hb6.size; clear ho6 hg6 hs6)
        | (with_reducible show if Region.wanted _ _ = true then Oper.wp _ { dst := some 75, op := _, type := _, pos := _, after := _, guard := _ } _ (World.alloc W6 _) _ _ else _; refine step_append_where rfl (.tmp 68) (.tmp 74) 23 rfl w.heap.size 2 i0 (.int .i64 0) 8 Try.underlying23 hi hz0 hz1 hz2 rfl _ k _ (by simp [Act.eval, Act.put]) (hq6.alloc _).oa ⟨W6.heap.size, 0, none⟩ 1 (.int .i64 V2) (by simp [Act.eval, Act.put]) (one_new _ _ _) (one_oneCell _ _) (by unfold maxLen; omega) (by omega) (below_new hb6 _).size ?_; intro s' W7 ho7 hg7 hs7; have hb7 := below_append (below_new hb6 _) (hq6.alloc _).oa hg7; have hq7 := ((hq6.alloc _).app ho7 hg7 hs7).rot; clear ho7 hg7 hs7)
        | (with_reducible show if Region.wanted _ _ = true then Oper.wp _ { dst := some 75, op := _, type := _, pos := _, after := _, guard := _ } _ W6 _ _ else _; refine step_append_where rfl (.tmp 68) (.tmp 74) 23 rfl w.heap.size 2 i0 (.int .i64 0) 8 Try.underlying23 hi hz0 hz1 hz2 rfl _ k _ (by simp [Act.eval, Act.put]) hq6.oa _ 1 (.int .i64 V2) (by simp [Act.eval, Act.put]) N2 (one_oneCell _ _) (by unfold maxLen; omega) (by omega) hsz6 ?_; intro s' W7 ho7 hg7 hs7; have hb7 := below_append hb6 hq6.oa hg7; have hq7 := (hq6.app ho7 hg7 hs7).rot; clear ho7 hg7 hs7))
      all_goals
        clear hq5 hq6 hb5 hb6 d51 d52 c51 c52 C1 C2
        go_wp2
        go_roundw
        case rel =>
          refine ⟨k + 1, by omega, by go_num, hb7, ?_⟩
          simp only [gath_succ]
          rw [← E0.out, ← E1.out, ← E2.out, ← E3.out]
          exact hq7
        case measure => simp [intOf]
    · have e : k = n := by omega
      subst e
      have eJ : (k : Int) - 1 - (k : Int) = -1 := by omega
      rw [eJ]
      clear eJ
      have oa := hq.oa
      have ob := hq.ob
      have oc := hq.oc
      have od := hq.od
      dsimp only at oa ob oc od
      clear hq
      have wfm : ∀ (z : List Int), (∀ i, (Lit.int .i64 (z.getD i 0)).wf = true) → ∀ v ∈ (List.range k).map (turnF z k), (Lit.int .i64 v).wf = true := fun z h v hv => by obtain ⟨y, _, rfl⟩ := List.mem_map.1 hv; exact h _
      have wfr : ∀ (z : List Int), ∀ v ∈ (List.range k).map (turnR z k), (Lit.int .i64 v).wf = true := fun z v hv => by
        obtain ⟨y, _, rfl⟩ := List.mem_map.1 hv
        have := rest_bounds (z.getD (k - 1 - y) 0)
        exact WalkArith.wf_i64 ⟨by unfold turnR; omega, by unfold turnR; omega⟩
      obtain ⟨pa, ca, rfl, rp⟩ := own_reads (k := .i8) (zs := (List.range k).map (turnF z0 k)) oa (by simp) (fun v hv => by obtain ⟨y, _, rfl⟩ := List.mem_map.1 hv; exact w0.wf _) (fun j hj => by rw [gath_at _ _ _ _ hj]; simp [hj])
      obtain ⟨pb, cb, rfl, rq⟩ := own_reads (zs := (List.range k).map (turnF z1 k)) ob (by simp) (wfm z1 w1.wf) (fun j hj => by rw [gath_at _ _ _ _ hj]; simp [hj])
      obtain ⟨pc, cc, rfl, rr⟩ := own_reads (zs := (List.range k).map (turnR z1 k)) oc (by simp) (wfr z1) (fun j hj => by rw [gath_at _ _ _ _ hj]; simp [hj])
      obtain ⟨pd, cd, rfl, rs⟩ := own_reads (zs := (List.range k).map (turnR z2 k)) od (by simp) (wfr z2) (fun j hj => by rw [gath_at _ _ _ _ hj]; simp [hj])
      obtain ⟨D, eD⟩ : ∃ D, dotZ z0 z1 6 = D := ⟨_, rfl⟩
      obtain ⟨E, eE⟩ : ∃ E, dotZ ((List.range k).map (turnR z1 k)) ((List.range k).map (turnR z2 k)) 16 = E := ⟨_, rfl⟩
      have v0 := w0.below hbr
      have v1 := w1.below hbr
      have k1 : Calls Try.prog 9 #[.slice a0 k c0, .slice a1 k c1] wr fun e w' => e = .returned (.tuple #[.int .i64 D, .int .i64 0]) ∧ ∃ m, w' = wr.drewN m := by
        have := dot_call _ _ c0 _ _ _ c1 _ _ v0 v1
        rwa [if_pos rfl, if_pos rfl, eD] at this
      have k2 : ∀ W, (∃ m, W = wr.drewN m) → Calls Try.prog 9 #[.slice pa k ca, .slice pb k cb] W fun e w' => e = .returned (.tuple #[.int .i64 D, .int .i64 0]) ∧ ∃ m, w' = W.drewN m := by
        rintro W ⟨m, rfl⟩
        have := dot_call _ _ ca _ _ _ cb _ _ (rp.drewN m) (rq.drewN m)
        rwa [if_pos rfl, if_pos rfl, dot_turned z0 z1 k w0.len (by omega) (fun i => clampZ_abs8 _ (w0.wf i)), eD] at this
      have k3 : ∀ W, (∃ m, W = wr.drewN m) → Calls Try.prog 11 #[.slice pc k cc, .slice pd k cd] W fun e w' => e = .returned (.tuple #[.int .i64 E, .int .i64 0]) ∧ ∃ m, w' = W.drewN m := by
        rintro W ⟨m, rfl⟩
        have := inner_call _ _ cc _ _ _ cd _ _ (rr.drewN m) (rs.drewN m)
        rwa [if_pos rfl, if_pos rfl, eE] at this
      have k4 : ∀ W, (∃ m, W = wr.drewN m) → Calls Try.prog 11 #[.slice pd k cd, .slice pc k cc] W fun e w' => e = .returned (.tuple #[.int .i64 E, .int .i64 0]) ∧ ∃ m, w' = W.drewN m := by
        rintro W ⟨m, rfl⟩
        have := inner_call _ _ cd _ _ _ cc _ _ (rs.drewN m) (rr.drewN m)
        rwa [if_pos rfl, if_pos rfl, dot_symm _ _ _ (by simp), eE] at this
      clear eD eE rp rq rr rs oa ob oc od w0 w1 w2 wfm wfr v0 v1 hi hz0 hz1 hz2 hj hy0 hy1 hy2 hb1
      go_wp2_with (first
        | (go_at_call 9; refine k1.mono ?_; rintro e W2 ⟨rfl, q2⟩; clear k1)
        | (go_at_call 9; refine (k2 _ q2).mono ?_; rintro e W3 ⟨rfl, q3⟩; replace q3 := drew_trans q2 q3; clear k2)
        | (go_at_call 11; refine (k3 _ q3).mono ?_; rintro e W4 ⟨rfl, q4⟩; replace q4 := drew_trans q3 q4; clear k3)
        | (go_at_call 11; refine (k4 _ q4).mono ?_; rintro e W5 ⟨rfl, q5⟩; replace q5 := drew_trans q4 q5; clear k4))
      go_ret
      exact ⟨rfl, below_drew hbr q5⟩


theorem walk (a0 : Option Addr) (n0 c0 : Nat) (z0 : List Int) (a1 : Option Addr) (n1 c1 : Nat) (z1 : List Int) (a2 : Option Addr) (n2 c2 : Nat) (z2 : List Int) (w : World) (w0 : Reads .i8 w a0 n0 z0) (e0 : a0 = none → c0 = 0) (l0 : n0 ≤ c0) (w1 : Reads .i64 w a1 n1 z1) (e1 : a1 = none → c1 = 0) (l1 : n1 ≤ c1) (w2 : Reads .i64 w a2 n2 z2) (e2 : a2 = none → c2 = 0) (l2 : n2 ≤ c2) :
    Calls Try.prog 7 #[.slice a0 n0 c0, .slice a1 n1 c1, .slice a2 n2 c2] w fun e w' => e = .returned (.bool true) ∧ Below w.heap.size w w' := by
  have hm := w0.max
  have hm1 := w1.max
  have hm2 := w2.max
  by_cases e01 : n0 = n1
  rotate_left
  · have e' : ((n0 : Int) == (n1 : Int)) = false := by simp; omega
    have e'' : ((n0 : Int) != (n1 : Int)) = true := by simp only [bne, e', Bool.not_false]
    go_enter Try.func7, Try.ntmps7
    go_wp2_with (go_at_call 20; refine (works_call _).mono ?_; rintro e W1 ⟨rfl, hb1⟩)
    go_ret
    exact ⟨rfl, hb1⟩
  subst e01
  by_cases e12 : n0 = n2
  rotate_left
  · have e' : ((n0 : Int) == (n2 : Int)) = false := by simp; omega
    have e'' : ((n0 : Int) != (n2 : Int)) = true := by simp only [bne, e', Bool.not_false]
    go_enter Try.func7, Try.ntmps7
    go_wp2_with (go_at_call 20; refine (works_call _).mono ?_; rintro e W1 ⟨rfl, hb1⟩)
    go_ret
    exact ⟨rfl, hb1⟩
  subst e12
  by_cases s0 : 1000 < n0
  · have s1 : (1000 : Int) < (n0 : Int) := by omega
    go_enter Try.func7, Try.ntmps7
    go_wp2_with (go_at_call 20; refine (works_call _).mono ?_; rintro e W1 ⟨rfl, hb1⟩)
    go_ret
    exact ⟨rfl, hb1⟩
  exact walk_same a0 n0 c0 z0 a1 c1 z1 a2 c2 z2 w w0 w1 w2 (by omega)

theorem contract (H : Type) (enc : TypeId × Value → H) (W : World) (base : Nat) (args : Array Value) (ds gs : List (DataW H)) (before : List MemPlace)
    (hval0 : ∀ (j : Nat) t v, Try.f7.params[j]? = some t → args[j]? = some v → Value.okWide Try.prog W .any base t v)
    (hW : DataW.Whole enc Try.prog Try.f7.params.toList Rows.vecTurnsSpec.vars false W args.toList ds gs before) :
    Calls Try.prog 7 args W fun e W' => ∃ v, e = .returned v ∧ Rows.vecTurnsSpec.post enc Try.prog Try.f7 false true false false W args v W' := by
  have hval : ∀ (j : Nat) t v, Try.f7.params[j]? = some t → args[j]? = some v → Value.okWide Try.prog W .any base t v := hval0
  have hW' := hW
  obtain ⟨p, q, hA0, hV, rfl, hfz, hnd⟩ := hW
  have hA : DataW.TrodAll enc Try.prog W 0 (fun _ => true) true Try.f7.params.toList args.toList ds p := hA0
  rw [Try.params7] at hA hval
  obtain ⟨v0, vs0, d0, ds0, p0, q0, hargs, rfl, rfl, h0, r0⟩ := trodAll_cons hA
  obtain ⟨v1, vs1, d1, ds1, p1, q1, rfl, rfl, rfl, h1, r1⟩ := trodAll_cons r0
  obtain ⟨v2, vs2, d2, ds2, p2, q2, rfl, rfl, rfl, h2, r2⟩ := trodAll_cons r1
  obtain ⟨rfl, rfl, rfl⟩ := trodAll_nil r2
  obtain rfl : args = #[v0, v1, v2] := by cases args; simp_all
  obtain ⟨rfl, rfl⟩ := trodVars_none hV
  obtain ⟨a0, n0, c0, rfl⟩ := okWide_slice Try.underlying22 (hval 0 22 v0 rfl rfl)
  have k0 := h0
  have lt0 : ∀ x ∈ p0, x.block < W.heap.size := by obtain ⟨m, hm⟩ := k0; exact DataW.trod_lt m _ _ _ hm
  obtain ⟨z0, w0, e0, l0, s0⟩ : ∃ zs, Reads .i8 W a0 n0 zs ∧ (a0 = none → c0 = 0) ∧ n0 ≤ c0 ∧ (n0 = 0 ∨ ∃ el sp, d0 = .slice el sp ∧ n0 ≤ el.length + sp.length) := by
    obtain ⟨fuel, hf⟩ := h0
    rcases open_ints Try.underlying22 Try.underlying38 (by kernel_rfl) hf with ⟨hcs, hd⟩ | ⟨x, l, c, zs, hcs, _, hl, hm, hz, hd, hcell, hwz⟩
    · simp [Value.cells] at hcs
      obtain ⟨rfl, rfl, rfl⟩ := hcs
      exact ⟨[], Reads.nil _ _, fun _ => rfl, Nat.le_refl _, .inl rfl⟩
    · simp [Value.cells] at hcs
      obtain ⟨rfl, rfl, rfl⟩ := hcs
      exact ⟨_, Reads.of_open hl hm (by simpa using hz) hcell hwz, (fun h => by cases h), hl, .inr ⟨_, _, congrArg Prod.fst hd, open_length (by simpa using hz) hl⟩⟩
  obtain ⟨a1, n1, c1, rfl⟩ := okWide_slice Try.underlying23 (hval 1 23 v1 rfl rfl)
  have k1 := h1
  have lt1 : ∀ x ∈ p1, x.block < W.heap.size := by obtain ⟨m, hm⟩ := k1; exact DataW.trod_lt m _ _ _ hm
  obtain ⟨z1, w1, e1, l1, s1⟩ : ∃ zs, Reads .i64 W a1 n1 zs ∧ (a1 = none → c1 = 0) ∧ n1 ≤ c1 ∧ (n1 = 0 ∨ ∃ el sp, d1 = .slice el sp ∧ n1 ≤ el.length + sp.length) := by
    obtain ⟨fuel, hf⟩ := h1
    rcases open_ints Try.underlying23 Try.underlying2 (by kernel_rfl) hf with ⟨hcs, hd⟩ | ⟨x, l, c, zs, hcs, _, hl, hm, hz, hd, hcell, hwz⟩
    · simp [Value.cells] at hcs
      obtain ⟨rfl, rfl, rfl⟩ := hcs
      exact ⟨[], Reads.nil _ _, fun _ => rfl, Nat.le_refl _, .inl rfl⟩
    · simp [Value.cells] at hcs
      obtain ⟨rfl, rfl, rfl⟩ := hcs
      exact ⟨_, Reads.of_open hl hm (by simpa using hz) hcell hwz, (fun h => by cases h), hl, .inr ⟨_, _, congrArg Prod.fst hd, open_length (by simpa using hz) hl⟩⟩
  obtain ⟨a2, n2, c2, rfl⟩ := okWide_slice Try.underlying23 (hval 2 23 v2 rfl rfl)
  have k2 := h2
  have lt2 : ∀ x ∈ p2, x.block < W.heap.size := by obtain ⟨m, hm⟩ := k2; exact DataW.trod_lt m _ _ _ hm
  obtain ⟨z2, w2, e2, l2, s2⟩ : ∃ zs, Reads .i64 W a2 n2 zs ∧ (a2 = none → c2 = 0) ∧ n2 ≤ c2 ∧ (n2 = 0 ∨ ∃ el sp, d2 = .slice el sp ∧ n2 ≤ el.length + sp.length) := by
    obtain ⟨fuel, hf⟩ := h2
    rcases open_ints Try.underlying23 Try.underlying2 (by kernel_rfl) hf with ⟨hcs, hd⟩ | ⟨x, l, c, zs, hcs, _, hl, hm, hz, hd, hcell, hwz⟩
    · simp [Value.cells] at hcs
      obtain ⟨rfl, rfl, rfl⟩ := hcs
      exact ⟨[], Reads.nil _ _, fun _ => rfl, Nat.le_refl _, .inl rfl⟩
    · simp [Value.cells] at hcs
      obtain ⟨rfl, rfl, rfl⟩ := hcs
      exact ⟨_, Reads.of_open hl hm (by simpa using hz) hcell hwz, (fun h => by cases h), hl, .inr ⟨_, _, congrArg Prod.fst hd, open_length (by simpa using hz) hl⟩⟩
  clear hA0 hval0
  refine (walk a0 n0 c0 z0 a1 n1 c1 z1 a2 n2 c2 z2 W w0 e0 l0 w1 e1 l1 w2 e2 l2).mono fun e W' ⟨he, bel⟩ => ?_
  subst he
  exact ⟨_, rfl, _, _, _, [], _, [], hW', trodAll_mk1 (shut_bool Try.underlying4 _), (trodAll_cons_mk (Below.trod laidOut (by kernel_rfl) (of_decide_eq_true (by kernel_rfl)) k0 bel lt0) (trodAll_cons_mk (Below.trod laidOut (by kernel_rfl) (of_decide_eq_true (by kernel_rfl)) k1 bel lt1) (trodAll_cons_mk (Below.trod laidOut (by kernel_rfl) (of_decide_eq_true (by kernel_rfl)) k2 bel lt2) trodAll_mk0))), rfl, bel.frame _, fun h => by cases h⟩

set_option maxRecDepth 100000 in
theorem lifted (os : Os) (started : os.Started) (H : Type) (enc : TypeId × Value → H) :
    ReturnsInHanded {} Try.checked os 7 .any (Rows.vecTurnsSpec.pre6 enc Try.prog Try.f7 Rows.vecTurnsRow.domain false) (Rows.vecTurnsSpec.post enc Try.prog Try.f7 false true false false) := by
  refine returnsInHanded_of_change (C := Try.checked) own started (by kernel_rfl) Try.func7
    (ChangeSpec.witness6 (enc := enc) (C := Try.checked) false ⟨#[], #[.slice none 0 0, .slice none 0 0, .slice none 0 0], []⟩ 8 (by kernel_rfl) (by kernel_rfl) (by kernel_rfl) (by kernel_rfl)) ?_
  intro W base args ds gs before hval hW _ _
  exact contract H enc W base args ds gs before hval hW

theorem over : Rows.vecTurnsRow.holds Try.pinned (OpenSpec.ofChange Rows.vecTurnsSpec) :=
  OpenClaim.holds_of_wide 7 Try.f7 rfl rfl rfl rfl rfl rfl rfl ⟨rfl, rfl, rfl, rfl, rfl⟩ rfl rfl rfl rfl rfl (by kernel_rfl) Try.func7 (by kernel_rfl)
    (of_decide_eq_true (by kernel_rfl)) (by unfold Func.isWrapper; first | (rw [if_pos (by decide +kernel)]; kernel_rfl) | (rw [if_neg (by decide +kernel)]; exact ⟨rfl, rfl⟩))
    (fun os started H enc _ => lifted os started H enc)

theorem proved : Rows.VecTurnsSaid :=
  over
#print axioms proved
end Go.Proofs.Ytnanhiifeihaaaa.vecTurns
