/- What the document's Rms gives back: contracts of the call. -/
import Derived.Test.YtdpodanhokihlaaRows
import Derived.Test.YtdpodanhokihlaaSat
import Derived.Test.YtdpodanhokihlaaSatRef
import Derived.Test.YtdpodanhokihlaaAdds
import Derived.Test.YtdpodanhokihlaaView
import Derived.Test.YtdpodanhokihlaaOwn
import Derived.Test.YtdpodanhokihlaaSteps
import Derived.Test.YtdpodanhokihlaaRoot
import Derived.Test.YtdpodanhokihlaaRef
import Derived.Test.YtdpodanhokihlaaRms
import Derived.WalkKit
import Derived.ProofKit
import Derived.OpenShut
import Derived.Below
import Derived.WalkLawsBesides
import Derived.Deep.QuietTactic
import Derived.BigQuiet
import Derived.Deep.RegionLaw
namespace Go.Proofs.Ytdpodanhokihlaa
open Go.ChangeShapes Go.WideShapes Go.ChangeAt Go.RowKit
set_option linter.unusedVariables false
set_option linter.unusedSimpArgs false

set_option maxHeartbeats 2000000 in
theorem refRms_same (a0 : Option Addr) (n c0 : Nat) (xs : List Int) (a1 : Option Addr) (c1 : Nat) (ys : List Int) (w : World) (h0 : Reads .i64 w a0 n xs) (h1 : Reads .i8 w a1 n ys) (hn : 0 < n) (hb : n * 8 ≤ 140737488355328) :
    Calls Try.prog 10 #[.slice a0 n c0, .slice a1 n c1] w fun e w' => (∃ a c, e = .returned (.tuple #[.slice a n c, .int .i64 0]) ∧ Reads .i64 w' a n (rmsZ xs ys n)) ∧ Below w.heap.size w w' := by
  obtain ⟨i0, hi, hz0, hz1, hz2⟩ := info_parts info2
  have hm := h0.max
  have nz : ((n : Int) == 0) = false := by simp; omega
  go_enter Try.func10, Try.ntmps10
  go_wp2
  go_loopw [6, 7] (fun s i wr => ∃ k : Nat, k ≤ n ∧ i = .int .i64 k ∧ s = .int .i64 (sqZ xs k) ∧ ∃ m, wr = w.drewN m) (fun _ i _ => n - (intOf i).toNat)
  case atStart => exact ⟨0, Nat.zero_le _, rfl, rfl, 0, rfl⟩
  case round =>
    obtain ⟨k, hk, rfl, rfl, m, hw⟩ := hrel
    by_cases hlt : k < n
    · obtain ⟨x, rfl⟩ := h0.some_ (by omega)
      have cx : wr.cell? (x.add k) = some (.int .i64 (xs.getD k 0)) := by rw [hw]; exact h0.cell x rfl k hlt
      have Hw : Hid (wr = w.drewN m) := hw
      clear hw
      have es : sqZ xs (k + 1) = addZ (sqZ xs k) (clampZ (xs.getD k 0) * clampZ (xs.getD k 0)) := rfl
      have ws := wf_sqZ xs k
      obtain ⟨Z, eZ⟩ : ∃ Z, xs.getD k 0 = Z := ⟨_, rfl⟩
      obtain ⟨S, eS⟩ : ∃ S, sqZ xs k = S := ⟨_, rfl⟩
      rw [eZ] at cx es
      rw [eS] at es ws ⊢
      have Es : Hid (sqZ xs (k + 1) = addZ S (clampZ Z * clampZ Z)) := es
      clear eZ eS es
      have bp := sq_prod Z
      have wp : (Lit.int .i64 (clampZ Z * clampZ Z)).wf = true := WalkArith.wf_i64 ⟨by omega, by omega⟩
      go_wp2
      go_quiet (first | (go_at_call 17; refine Calls.quiet_of_same (refClamp_call _ _)) | (go_at_call 22; refine Calls.quiet_of_same (refAdd_call _ _ ws wp _)))
      go_wp2
      go_roundw
      case rel => exact ⟨k + 1, by omega, by go_num, by rw [Es.out], _, by rw [Hw.out, World.drewN_drewN]⟩
      case measure => simp [intOf]; omega
    · have e : k = n := by omega
      subst e
      have hb0 : Below w.heap.size w wr := below_drew (Below.refl _ _) ⟨m, hw⟩
      clear hw
      rename World => W1
      have sb := sqZ_bounds xs k
      have rb := rsqrtZ_bounds (meanZ xs k)
      have krs := fun W => refRsqrt_call (meanZ xs k) W
      have eM : meanZ xs k = clampZ (shiftZ ((sqZ xs k).tdiv k) 16 + 1) := rfl
      obtain ⟨r, er⟩ : ∃ r, rsqrtZ (meanZ xs k) = r := ⟨_, rfl⟩
      have Er : Hid (rsqrtZ (meanZ xs k) = r) := er
      rw [er] at rb krs
      rw [eM] at krs
      clear er eM
      obtain ⟨S, eS⟩ : ∃ S, sqZ xs k = S := ⟨_, rfl⟩
      rw [eS] at sb krs ⊢
      clear eS
      obtain ⟨t0, t1⟩ := tdiv_bounds S k sb.1
      have t2 : S.tdiv k ≤ 9223372036854775807 := by omega
      have wq : (Lit.int .i64 (S.tdiv k)).wf = true := WalkArith.wf_i64 ⟨by omega, by omega⟩
      obtain ⟨u0, u1⟩ := shift16_bounds (S.tdiv k) t0 t2
      have wr' : (Lit.int .i64 r).wf = true := WalkArith.wf_i64 ⟨by omega, by omega⟩
      go_wp2_with (first | (go_at_call 23; refine (refShift_call _ _ wq (by decide) _).mono ?_; rintro e w' ⟨rfl, h⟩; obtain rfl := h.symm) | (go_at_call 17; refine (refClamp_call _ _).mono ?_; rintro e w' ⟨rfl, h⟩; obtain rfl := h.symm) | (go_at_call 24; refine (krs _).mono ?_; rintro e w' ⟨rfl, h⟩; obtain rfl := h.symm))
      clear krs t0 t1 t2 u0 u1 wq sb
      go_loopw [10, 11] (fun v i wr => ∃ j : Nat, j ≤ k ∧ i = .int .i64 j ∧ Below w.heap.size w wr ∧ wr.ownsRow w.heap.size 2 1 v j (gath (rmsF xs ys r) .i64 j)) (fun _ i _ => k - (intOf i).toNat)
      case atStart => exact ⟨0, Nat.zero_le _, rfl, hb0, World.ownsRow_nil _ _ _ _⟩
      case round =>
        obtain ⟨j, hj, rfl, hbr, ho⟩ := hrel
        by_cases hlt : j < k
        · have hr := h0.below hbr
          have hq := h1.below hbr
          obtain ⟨x, rfl⟩ := h0.some_ (by omega)
          obtain ⟨y, rfl⟩ := h1.some_ (by omega)
          have cx := hr.cell x rfl j hlt
          have cy := hq.cell y rfl j hlt
          have wx := h0.wf j
          have wy := h1.wf j
          have hsz := hbr.size
          obtain ⟨X, eX⟩ : ∃ X, xs.getD j 0 = X := ⟨_, rfl⟩
          obtain ⟨Y, eY⟩ : ∃ Y, ys.getD j 0 = Y := ⟨_, rfl⟩
          have eP : clampZ (shiftZ (mulZ X r * Y) 6) = rmsF xs ys r j := by unfold rmsF weighZ; rw [eX, eY]
          have Ep : Hid (clampZ (shiftZ (mulZ X r * Y) 6) = rmsF xs ys r j) := eP
          rw [eX] at cx wx
          rw [eY] at cy wy
          have mb := mulZ_bounds X r
          have b8 := wf_i8 wy
          obtain ⟨p0, p1⟩ := weigh_bounds _ _ mb b8
          have wp : (Lit.int .i64 (mulZ X r * Y)).wf = true := WalkArith.wf_i64 ⟨by omega, by omega⟩
          have ew : IntKind.i64.wrap (mulZ X r * Y) = mulZ X r * Y := by rw [IntKind.wrap_i64]; omega
          have ey : IntKind.i64.wrap Y = Y := by rw [IntKind.wrap_i64]; omega
          clear eX eY eP hr hq h0 h1 hb0
          go_wp2
          go_region_law (first
            | (with_reducible show if Region.wanted { dst := _, op := Op.call { callee := Callee.value (Operand.func 25), args := _, argTypes := _ }, type := _, pos := _, after := _, guard := _ } _ = true then _ else _; refine step_call2 rfl 25 (.tmp 60) (.tmp 61) _ _ rfl enter25 (.int .i64 X) (.int .i64 r) _ (by simp [Act.eval, Act.put]) (by simp [Act.eval, Act.put]) (refMul_call _ _ wx wr' _) ?_)
            | (with_reducible show if Region.wanted { dst := _, op := Op.call { callee := Callee.value (Operand.func 23), args := _, argTypes := _ }, type := _, pos := _, after := _, guard := _ } _ = true then _ else _; refine step_call2 rfl 23 (.tmp 68) _ _ _ rfl enter23 (.int .i64 (mulZ X r * Y)) (.int .i64 6) _ (by simp [Act.eval, Act.put, ew, ey]) (by simp [Act.eval, Act.put]) (refShift_call _ _ wp (by decide) _) ?_)
            | (with_reducible show if Region.wanted { dst := _, op := Op.call { callee := Callee.value (Operand.func 17), args := _, argTypes := _ }, type := _, pos := _, after := _, guard := _ } _ = true then _ else _; refine step_call rfl 17 (.tmp 69) _ rfl enter17 (.int .i64 (shiftZ (mulZ X r * Y) 6)) _ (by simp [Act.eval, Act.put, ew, ey]) (refClamp_call _ _) ?_)
            | (with_reducible show if Region.wanted { dst := _, op := Op.call { callee := Callee.builtin Builtin.append, args := _, argTypes := _ }, type := _, pos := _, after := _, guard := _ } _ = true then _ else _; refine step_append rfl (.tmp 56) (.tmp 71) 22 rfl w.heap.size 2 i0 (.int .i64 0) 1 8 Try.underlying22 hi hz0 hz1 hz2 rfl (by decide) _ _ _ (by simp [Act.eval, Act.put]) (ho.alloc _).drew ⟨wr.heap.size, 0, none⟩ 1 1 [.int .i64 (clampZ (shiftZ (mulZ X r * Y) 6))] (by simp [Act.eval, Act.put]) rfl (one_newD _ _ _) (one_oneCell _ _) (by unfold maxLen; omega) (by omega) (size_newD _ _ _ hsz) ?_; intro v' w1 ho' hg))
          all_goals
            have R := append_step hsz Ep.out hbr ho ho' (grown_drew hg)
            clear ho' hg ho hbr
            go_wp2
            go_roundw
            case rel => exact ⟨j + 1, by omega, by go_num, R⟩
            case measure => simp [intOf]; omega
        · have e : j = k := by omega
          subst e
          have fin := own_reads (zs := rmsZ xs ys j) ho (by simp [rmsZ]) (fun z hz => by obtain ⟨y, _, rfl⟩ := List.mem_map.1 hz; exact wf_clampZ _) (fun i hi => by rw [gath_at _ _ _ _ hi]; unfold rmsZ; rw [Er.out]; simp [hi])
          obtain ⟨a, c, rfl, hr⟩ := fin
          clear ho
          go_wp2
          go_ret2
          exact ⟨⟨_, _, rfl, hr⟩, hbr⟩

theorem refRms_wrong (a0 : Option Addr) (n0 c0 : Nat) (a1 : Option Addr) (n1 c1 : Nat) (w : World) (h : ¬(0 < n0 ∧ n0 = n1)) :
    Calls Try.prog 10 #[.slice a0 n0 c0, .slice a1 n1 c1] w fun e w' => e = .returned (.tuple #[.slice none 0 0, .int .i64 21]) ∧ w' = w := by
  by_cases z : n0 = 0
  · have z' : ((n0 : Int) == 0) = true := by simp; omega
    go_enter Try.func10, Try.ntmps10
    go_wp2_with fail
    go_ret2
    exact ⟨rfl, rfl⟩
  · have z' : ((n0 : Int) == 0) = false := by simp; omega
    have e' : ((n0 : Int) == (n1 : Int)) = false := by simp; omega
    go_enter Try.func10, Try.ntmps10
    go_wp2_with fail
    go_ret2
    exact ⟨rfl, rfl⟩

theorem refRms_call (a0 : Option Addr) (n0 c0 : Nat) (xs : List Int) (a1 : Option Addr) (n1 c1 : Nat) (ys : List Int) (w : World) (h0 : Reads .i64 w a0 n0 xs) (h1 : Reads .i8 w a1 n1 ys) (hb : n0 * 8 ≤ 140737488355328) :
    Calls Try.prog 10 #[.slice a0 n0 c0, .slice a1 n1 c1] w fun e w' => (∃ a m c, e = .returned (.tuple #[.slice a m c, .int .i64 (if 0 < n0 ∧ n0 = n1 then 0 else 21)]) ∧ Reads .i64 w' a m (if 0 < n0 ∧ n0 = n1 then rmsZ xs ys n0 else [])) ∧ Below w.heap.size w w' := by
  by_cases e : 0 < n0 ∧ n0 = n1
  · obtain ⟨e0, rfl⟩ := e
    simp only [e0, and_self, if_true]
    exact (refRms_same _ _ _ _ _ _ _ _ h0 h1 e0 hb).mono fun e w' ⟨⟨a, c, he, hr⟩, hw⟩ => ⟨⟨a, _, c, he, hr⟩, hw⟩
  · simp only [if_neg e]
    exact (refRms_wrong _ _ _ _ _ _ _ e).mono fun e w' ⟨he, hw⟩ => ⟨⟨none, 0, 0, he, Reads.nil _ _⟩, hw ▸ Below.refl _ _⟩

end Go.Proofs.Ytdpodanhokihlaa
