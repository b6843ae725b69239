/- Need of the program and of the document, and the iterator that hands out pages and cells: their contracts. -/
import Derived.Test.YtfggkkhehaafcaaRows
import Derived.Test.YtfggkkhehaafcaaPages
import Derived.Test.YtfggkkhehaafcaaView
import Derived.Test.YtfggkkhehaafcaaOwn
import Derived.Test.YtfggkkhehaafcaaReadsP
import Derived.Test.YtfggkkhehaafcaaReadsQ
import Derived.Test.YtfggkkhehaafcaaLeast
import Derived.Test.YtfggkkhehaafcaaLays
import Derived.Test.YtfggkkhehaafcaaGoods
import Derived.Test.YtfggkkhehaafcaaPlain
import Derived.WalkKit
import Derived.ProofKit
import Derived.OpenShut
import Derived.Below
import Derived.WalkLawsBesides
import Derived.Deep.QuietTactic
import Derived.BigQuiet
import Derived.RangeFuncNested
import Derived.RangeFuncBox
import Derived.RangeFuncBound
import Derived.RangeFuncCalls
import Derived.RangeFuncLeaves
import Derived.Shelf.Abstract
import Derived.Shelf.RegionOpen
import Derived.OwnWalkIn
import Derived.TacticsInMore
import Derived.LoopNIn
import Derived.LoopIn
namespace Go.Proofs.Ytfggkkhehaafcaa
open Go.ChangeShapes Go.WideShapes Go.ChangeAt Go.RowKit
set_option linter.unusedVariables false

theorem need_call (z : Int) (hz : z ≤ 9223372036854775807) (hz' : -9223372036854775808 ≤ z) (w : World) : Calls Try.prog 71 #[.int .i64 z] w fun e w' => e = .returned (.int .i64 (needZ z)) ∧ w' = w := by
  by_cases h : z < 1
  · have e : needZ z = 0 := by simp [needZ, h]
    rw [e]
    go_enter Try.func71, Try.ntmps71
    go_wp2
    go_ret
    exact ⟨rfl, rfl⟩
  · have e : needZ z = (z - 1) / 32 + 1 := by simp [needZ, h]
    obtain ⟨Q, eQ⟩ : ∃ Q, (z - 1).tdiv 32 = Q := ⟨_, rfl⟩
    have eQ' : (z - 1) / 32 = Q := by rw [← eQ, Int.tdiv_eq_ediv_of_nonneg (by omega)]
    rw [e, eQ']
    have q0 : 0 ≤ Q := by omega
    have q1 : Q ≤ 288230376151711744 := by omega
    clear e eQ'
    go_enter Try.func71, Try.ntmps71
    go_wp2
    go_ret
    exact ⟨rfl, rfl⟩

theorem refNeed_call (z : Int) (hz : z ≤ 9223372036854775807) (hz' : -9223372036854775808 ≤ z) (w : World) : Calls Try.prog 63 #[.int .i64 z] w fun e w' => e = .returned (.int .i64 (needZ z)) ∧ w' = w := by
  by_cases h : z < 1
  · have e : needZ z = 0 := by simp [needZ, h]
    rw [e]
    go_enter Try.func63, Try.ntmps63
    go_wp2
    go_ret
    exact ⟨rfl, rfl⟩
  · have e : needZ z = (z - 1) / 32 + 1 := by simp [needZ, h]
    obtain ⟨Q, eQ⟩ : ∃ Q, (z - 1).tdiv 32 = Q := ⟨_, rfl⟩
    have eQ' : (z - 1) / 32 = Q := by rw [← eQ, Int.tdiv_eq_ediv_of_nonneg (by omega)]
    rw [e, eQ']
    have q0 : 0 ≤ Q := by omega
    have q1 : Q ≤ 288230376151711744 := by omega
    clear e eQ'
    go_enter Try.func63, Try.ntmps63
    go_wp2
    go_ret
    exact ⟨rfl, rfl⟩

theorem places_call (a : Option Addr) (l c : Nat) (z : Int) (w : World) :
    Calls Try.prog 72 #[.slice a l c, .int .i64 z] w fun e w' => e = .returned (.func (.func 81) #[] #[.pointer (some ⟨w.heap.size + 1, 0, none⟩), .pointer (some ⟨w.heap.size, 0, none⟩)]) ∧
      w' = (w.alloc (.cells #[.slice a l c] 58)).alloc (.cells #[.int .i64 z] 3) := by
  go_enter Try.func72, Try.ntmps72
  go_wp2
  go_ret
  exact ⟨rfl, rfl⟩

theorem add_block (x : Addr) (n : Nat) : (x.add n).block = x.block := by unfold Addr.add; split <;> rfl

/-- what the iterator reads between two rounds is as it was -/
def KpP (bp : Nat) (a : Option Addr) (W W' : World) : Prop := W'.heap[bp]? = W.heap[bp]? ∧ ∀ x, a = some x → W'.heap[x.block]? = W.heap[x.block]?
theorem KpP.refl (bp : Nat) (a : Option Addr) (W : World) : KpP bp a W W := ⟨rfl, fun _ _ => rfl⟩
theorem KpP.trans {bp : Nat} {a : Option Addr} {A B C : World} (h : KpP bp a A B) (k : KpP bp a B C) : KpP bp a A C := ⟨k.1.trans h.1, fun x hx => (k.2 x hx).trans (h.2 x hx)⟩
theorem KpP.book {bp : Nat} {a : Option Addr} {w : World} (h1 : bp < w.heap.size) (h2 : ∀ x, a = some x → x.block < w.heap.size) (W : World) (l : Nat) (o o' : Obj) (hl : w.heap.size ≤ l) (_ : W.heap[l]? = some o) (_ : o.isCells = false) (_ : o.isWalk = false) : KpP bp a W (W.putObj l o') :=
  ⟨World.putObj_heap_other (by omega), fun x hx => World.putObj_heap_other (by have := h2 x hx; omega)⟩

section
attribute [local go_sem] Oper.semAt_some

set_option maxRecDepth 100000 in
set_option maxHeartbeats 2000000 in
theorem places1_in (F : Fence) (n : Nat) (h45 : F.fn 81) (hro : F.round = none) (hn : 1 ≤ n) (l bn bp : Nat) (a : Option Addr) (L c N : Nat) (P : List Int) (hN : (N + 31) / 32 ≤ L) (hNm : N ≤ 9223372036854775807) (J Jx : List (Int × Int) → World → Prop)
    (hY : ∀ pre x W, J pre W → pre.length < N → YieldAt F (n - 1) Try.prog l #[.int .i64 x.1, .int .i64 x.2] W fun e W' =>
      (e = .returned (.bool true) ∧ J (pre ++ [x]) W' ∧ KpP bp a W W') ∨ (e = .returned (.bool false) ∧ Jx (pre ++ [x]) W'))
    (W : World) (hbn : W.cell? ⟨bn, 0, none⟩ = some (.int .i64 N)) (hbp : W.cell? ⟨bp, 0, none⟩ = some (.slice a L c)) (hr : Reads .i64 W a L P) (h0 : J [] W) :
    CallsIn F n Try.prog 81 #[.func (.yield l) #[] #[], .pointer (some ⟨bn, 0, none⟩), .pointer (some ⟨bp, 0, none⟩)] W fun e W' => (∃ v, e = .returned v) ∧
      ((∃ ys, ys = spots P N ∧ J ys W') ∨ (∃ pre, (∃ k, k ≤ N ∧ pre = spots P k) ∧ Jx pre W')) := by
  refine callsIn_of_wp Try.func81 rfl h45 ?_ hro
  simp only [Try.ntmps81, List.size_toArray, List.length_cons, List.length_nil, Nat.reduceAdd, Nat.reduceSub, Array.replicate_succ, Array.replicate_zero, List.push_toArray, List.append_toArray, List.nil_append, List.cons_append]
  have hL := hr.max
  gi_wp2
  gi_loopw [6] (fun i wr => ∃ k : Nat, k ≤ N ∧ i = .int .i64 k ∧ J (spots P k) wr ∧ KpP bp a W wr) (fun i _ => N - (intOf i).toNat)
  case atStart => exact ⟨0, Nat.zero_le _, rfl, h0, KpP.refl _ _ _⟩
  case round =>
    obtain ⟨k, hk, rfl, hJs, hkp⟩ := hrel
    by_cases hlt : k < N
    · obtain ⟨Q, eQ⟩ : ∃ Q : Nat, k / 32 = Q := ⟨_, rfl⟩
      obtain ⟨R, eR⟩ : ∃ R : Nat, k % 32 = R := ⟨_, rfl⟩
      have q1 : (k : Int).tdiv 32 = (Q : Int) := by rw [Int.tdiv_eq_ediv_of_nonneg (by omega)]; omega
      have q2 : (k : Int).tmod 32 = (R : Int) := by rw [Int.tmod_eq_emod_of_nonneg (by omega)]; omega
      have q3 : Q < L := by omega
      obtain ⟨x, rfl⟩ := hr.some_ (by omega)
      obtain ⟨Z, eZ⟩ : ∃ Z, P.getD Q 0 = Z := ⟨_, rfl⟩
      have cx : wr.cell? (x.add Q) = some (.int .i64 Z) := by rw [← eZ]; exact (World.cell?_of_block (w := W) (show wr.heap[(x.add Q).block]? = W.heap[(x.add Q).block]? by rw [add_block]; exact hkp.2 x rfl)).trans (hr.cell x rfl Q q3)
      have cp : wr.cell? ⟨bp, 0, none⟩ = some (.slice (some x) L c) := (World.cell?_of_block (w := W) hkp.1).trans hbp
      have hsp : Hid (spots P (k + 1) = spots P k ++ [(Z, (R : Int))]) := by rw [spots_succ, ← eZ, ← eQ, ← eR]; exact hidden_ rfl
      obtain ⟨fn, tmps, assign, body, hy, hR⟩ := hY _ (Z, (R : Int)) wr hJs (by rw [spots_len]; exact hlt)
      dsimp only at hy
      clear eZ eQ eR
      gi_wp2
      refine hR.mono ?_
      rintro e W3 (⟨rfl, hJ3, hk3⟩ | ⟨rfl, hJx3⟩)
      · gi_wp2
        go_roundw
        case rel => exact ⟨k + 1, by omega, by go_num, by rw [hsp.out]; exact hJ3, hkp.trans hk3⟩
        case measure => simp [intOf]; omega
      · gi_wp2
        refine bodyPost_ret (results_none rfl _ _ _) rfl ?_
        exact ⟨⟨_, rfl⟩, .inr ⟨_, ⟨k + 1, by omega, hsp.out.symm⟩, hJx3⟩⟩
    · obtain rfl : k = N := by omega
      gi_wp2
      go_end0
      exact ⟨⟨_, rfl⟩, .inl ⟨_, rfl, hJs⟩⟩
end

theorem places_stops (F : Fence) (n : Nat) (h45 : F.fn 81) (hro : F.round = none) (hn : 1 ≤ n) (bn bp : Nat) (a : Option Addr) (L c N : Nat) (P : List Int) (hN : (N + 31) / 32 ≤ L) (hNm : N ≤ 9223372036854775807) (w : World)
    (hbn : w.cell? ⟨bn, 0, none⟩ = some (.int .i64 N)) (hbp : w.cell? ⟨bp, 0, none⟩ = some (.slice a L c)) (hr : Reads .i64 w a L P) :
    SeqStopsK F n Try.prog 81 #[.pointer (some ⟨bn, 0, none⟩), .pointer (some ⟨bp, 0, none⟩)] (fun x : Int × Int => #[Value.int .i64 x.1, .int .i64 x.2]) (KpP bp a) (fun ys => ys = spots P N) (fun pre => ∃ k, k ≤ N ∧ pre = spots P k) N w := fun l J Jx W hW _ _ hY h0 =>
  places1_in F n h45 hro hn l bn bp a L c N P hN hNm J Jx hY W ((hW.cell (World.block_lt_of_cell? w _ hbn)).trans hbn) ((hW.cell (World.block_lt_of_cell? w _ hbp)).trans hbp) (hr.below hW) h0

end Go.Proofs.Ytfggkkhehaafcaa
