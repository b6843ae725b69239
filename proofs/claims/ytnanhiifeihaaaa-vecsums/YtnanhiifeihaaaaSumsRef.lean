/- What the document's sum of two rows gives back: the contract of the call. -/
import Derived.Test.YtnanhiifeihaaaaRows
import Derived.Test.YtnanhiifeihaaaaSat
import Derived.Test.YtnanhiifeihaaaaSatRef
import Derived.Test.YtnanhiifeihaaaaView
import Derived.Test.YtnanhiifeihaaaaOwn
import Derived.Test.YtnanhiifeihaaaaSteps
import Derived.Test.YtnanhiifeihaaaaSums
import Derived.WalkKit
import Derived.ProofKit
import Derived.OpenShut
import Derived.Below
import Derived.WalkLawsBesides
import Derived.Deep.RegionLaw
namespace Go.Proofs.Ytnanhiifeihaaaa
open Go.ChangeShapes Go.WideShapes Go.ChangeAt Go.RowKit
set_option linter.unusedVariables false
set_option linter.unusedSimpArgs false

set_option maxHeartbeats 2000000 in
theorem refAdd4_same (a0 : Option Addr) (n c0 : Nat) (xs : List Int) (a1 : Option Addr) (c1 : Nat) (ys : List Int) (w : World) (h0 : Reads .i64 w a0 n xs) (h1 : Reads .i64 w a1 n ys) (hb : n * 8 ≤ 140737488355328) :
    Calls Try.prog 17 #[.slice a0 n c0, .slice a1 n c1] w fun e w' => (∃ a c, e = .returned (.tuple #[.slice a n c, .int .i64 0]) ∧ Reads .i64 w' a n ((List.range n).map (plusZ xs ys))) ∧ Below w.heap.size w w' := by
  obtain ⟨i0, hi, hz0, hz1, hz2⟩ := info_parts info2
  have hm := h0.max
  go_enter Try.func17, Try.ntmps17
  go_wp2
  go_loopw [6, 7] (fun v i wr => ∃ k : Nat, k ≤ n ∧ i = .int .i64 k ∧ Below w.heap.size w wr ∧ wr.ownsRow w.heap.size 2 1 v k (gath (plusZ xs ys) .i64 k)) (fun _ i _ => n - (intOf i).toNat)
  case atStart => exact ⟨0, Nat.zero_le _, rfl, Below.refl _ _, World.ownsRow_nil _ _ _ _⟩
  case round =>
    obtain ⟨k, hk, rfl, hbr, ho⟩ := hrel
    by_cases hlt : k < n
    · have hr := h0.below hbr
      have hq := h1.below hbr
      obtain ⟨x, rfl⟩ := h0.some_ (by omega)
      obtain ⟨y, rfl⟩ := h1.some_ (by omega)
      have cx := hr.cell x rfl k hlt
      have cy := hq.cell y rfl k hlt
      have hsz := hbr.size
      obtain ⟨X, eX⟩ : ∃ X, xs.getD k 0 = X := ⟨_, rfl⟩
      obtain ⟨Y, eY⟩ : ∃ Y, ys.getD k 0 = Y := ⟨_, rfl⟩
      have eP : clampZ (clampZ X + clampZ Y) = plusZ xs ys k := by unfold plusZ; rw [eX, eY]
      have Ep : Hid (clampZ (clampZ X + clampZ Y) = plusZ xs ys k) := eP
      rw [eX] at cx
      rw [eY] at cy
      have bx := clampZ_bounds X
      have by_ := clampZ_bounds Y
      have ew : IntKind.i64.wrap (clampZ X + clampZ Y) = clampZ X + clampZ Y := by rw [IntKind.wrap_i64]; omega
      clear eX eY eP hr hq h0 h1
      go_wp2
      go_region_law (first
        | (with_reducible show if Region.wanted { dst := _, op := Op.call { callee := Callee.value (Operand.func 23), args := #[Operand.tmp 23], argTypes := _ }, type := _, pos := _, after := _, guard := _ } _ = true then _ else _; refine step_call rfl 23 (.tmp 23) _ rfl enter23 (.int .i64 X) _ (by simp [Act.eval, Act.put]) (refClamp_call _ _) ?_)
        | (with_reducible show if Region.wanted { dst := _, op := Op.call { callee := Callee.value (Operand.func 23), args := #[Operand.tmp 28], argTypes := _ }, type := _, pos := _, after := _, guard := _ } _ = true then _ else _; refine step_call rfl 23 (.tmp 28) _ rfl enter23 (.int .i64 Y) _ (by simp [Act.eval, Act.put]) (refClamp_call _ _) ?_)
        | (with_reducible show if Region.wanted { dst := _, op := Op.call { callee := Callee.value (Operand.func 23), args := #[Operand.tmp 30], argTypes := _ }, type := _, pos := _, after := _, guard := _ } _ = true then _ else _; refine step_call rfl 23 (.tmp 30) _ rfl enter23 (.int .i64 (clampZ X + clampZ Y)) _ (by simp [Act.eval, Act.put, ew]) (refClamp_call _ _) ?_)
        | (with_reducible show if Region.wanted { dst := _, op := Op.call { callee := Callee.builtin Builtin.append, args := _, argTypes := _ }, type := _, pos := _, after := _, guard := _ } _ = true then _ else _; refine step_append rfl (.tmp 19) (.tmp 32) 23 rfl w.heap.size 2 i0 (.int .i64 0) 1 8 Try.underlying23 hi hz0 hz1 hz2 rfl (by decide) _ _ _ (by simp [Act.eval, Act.put]) (ho.alloc _).drew ⟨wr.heap.size, 0, none⟩ 1 1 [.int .i64 (clampZ (clampZ X + clampZ Y))] (by simp [Act.eval, Act.put]) rfl (one_newD _ _ _) (one_oneCell _ _) (by unfold maxLen; omega) (by omega) (size_newD _ _ _ hsz) ?_; intro v' w1 ho' hg))
      all_goals
        have R := append_step hsz Ep.out hbr ho ho' (grown_drew hg)
        clear ho' hg ho hbr
        go_wp2
        go_roundw
        case rel => exact ⟨k + 1, by omega, by go_num, R⟩
        case measure => simp [intOf]; omega
    · have e : k = n := by omega
      subst e
      have fin := own_reads (zs := (List.range k).map (plusZ xs ys)) ho (by simp) (fun z hz => by obtain ⟨y, _, rfl⟩ := List.mem_map.1 hz; exact wf_clampZ _) (fun j hj => by rw [gath_at _ _ _ _ hj]; simp [hj])
      obtain ⟨a, c, rfl, hr⟩ := fin
      clear ho
      go_wp2
      go_ret2
      exact ⟨⟨_, _, rfl, hr⟩, hbr⟩

theorem add4_differ (a0 : Option Addr) (n0 c0 : Nat) (a1 : Option Addr) (n1 c1 : Nat) (w : World) (h : n0 ≠ n1) :
    Calls Try.prog 16 #[.slice a0 n0 c0, .slice a1 n1 c1] w fun e w' => e = .returned (.tuple #[.slice none 0 0, .int .i64 21]) ∧ w' = w := by
  have e' : ((n0 : Int) == (n1 : Int)) = false := by simp; omega
  go_enter Try.func16, Try.ntmps16
  go_wp2_with fail
  go_ret2
  exact ⟨rfl, rfl⟩

theorem refAdd4_differ (a0 : Option Addr) (n0 c0 : Nat) (a1 : Option Addr) (n1 c1 : Nat) (w : World) (h : n0 ≠ n1) :
    Calls Try.prog 17 #[.slice a0 n0 c0, .slice a1 n1 c1] w fun e w' => e = .returned (.tuple #[.slice none 0 0, .int .i64 21]) ∧ w' = w := by
  have e' : ((n0 : Int) == (n1 : Int)) = false := by simp; omega
  go_enter Try.func17, Try.ntmps17
  go_wp2_with fail
  go_ret2
  exact ⟨rfl, rfl⟩

theorem add4_call (a0 : Option Addr) (n0 c0 : Nat) (xs : List Int) (a1 : Option Addr) (n1 c1 : Nat) (ys : List Int) (w : World) (h0 : Reads .i64 w a0 n0 xs) (h1 : Reads .i64 w a1 n1 ys) (hb : n0 * 8 ≤ 281474976710656) :
    Calls Try.prog 16 #[.slice a0 n0 c0, .slice a1 n1 c1] w fun e w' => (∃ a m c, e = .returned (.tuple #[.slice a m c, .int .i64 (if n0 = n1 then 0 else 21)]) ∧ Reads .i64 w' a m (if n0 = n1 then (List.range n0).map (plusZ xs ys) else [])) ∧ Below w.heap.size w w' := by
  by_cases e : n0 = n1
  · subst e
    simp only [if_true]
    exact (add4_same _ _ _ _ _ _ _ _ h0 h1 hb).mono fun e w' ⟨⟨a, c, he, hr⟩, hw⟩ => ⟨⟨a, _, c, he, hr⟩, hw⟩
  · simp only [if_neg e]
    exact (add4_differ _ _ _ _ _ _ _ e).mono fun e w' ⟨he, hw⟩ => ⟨⟨none, 0, 0, he, Reads.nil _ _⟩, hw ▸ Below.refl _ _⟩

theorem refAdd4_call (a0 : Option Addr) (n0 c0 : Nat) (xs : List Int) (a1 : Option Addr) (n1 c1 : Nat) (ys : List Int) (w : World) (h0 : Reads .i64 w a0 n0 xs) (h1 : Reads .i64 w a1 n1 ys) (hb : n0 * 8 ≤ 140737488355328) :
    Calls Try.prog 17 #[.slice a0 n0 c0, .slice a1 n1 c1] w fun e w' => (∃ a m c, e = .returned (.tuple #[.slice a m c, .int .i64 (if n0 = n1 then 0 else 21)]) ∧ Reads .i64 w' a m (if n0 = n1 then (List.range n0).map (plusZ xs ys) else [])) ∧ Below w.heap.size w w' := by
  by_cases e : n0 = n1
  · subst e
    simp only [if_true]
    exact (refAdd4_same _ _ _ _ _ _ _ _ h0 h1 hb).mono fun e w' ⟨⟨a, c, he, hr⟩, hw⟩ => ⟨⟨a, _, c, he, hr⟩, hw⟩
  · simp only [if_neg e]
    exact (refAdd4_differ _ _ _ _ _ _ _ e).mono fun e w' ⟨he, hw⟩ => ⟨⟨none, 0, 0, he, Reads.nil _ _⟩, hw ▸ Below.refl _ _⟩

end Go.Proofs.Ytnanhiifeihaaaa
