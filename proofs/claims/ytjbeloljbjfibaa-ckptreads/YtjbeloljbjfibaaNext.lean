/- The document's Cut: the next weights, as a list of their own. -/
import Derived.Test.YtjbeloljbjfibaaRows
import Derived.Test.YtjbeloljbjfibaaView
import Derived.Test.YtjbeloljbjfibaaOwn
import Derived.Test.YtjbeloljbjfibaaCfg
import Derived.Test.YtjbeloljbjfibaaCfgs
import Derived.Test.YtjbeloljbjfibaaHeld
import Derived.Test.YtjbeloljbjfibaaTexts
import Derived.Test.YtjbeloljbjfibaaSums
import Derived.Test.YtjbeloljbjfibaaSeals
import Derived.Test.YtjbeloljbjfibaaReader
import Derived.Test.YtjbeloljbjfibaaBlank
import Derived.Test.YtjbeloljbjfibaaCfgRef
import Derived.Test.YtjbeloljbjfibaaSize
import Derived.Test.YtjbeloljbjfibaaSizes
import Derived.Test.YtjbeloljbjfibaaSteps
import Derived.Test.YtjbeloljbjfibaaClo54
import Derived.Test.YtjbeloljbjfibaaFill
import Derived.Test.YtjbeloljbjfibaaMods
import Derived.WalkKit
import Derived.ProofKit
import Derived.OpenShut
import Derived.Below
import Derived.WalkLawsBesides
import Derived.Deep.QuietTactic
import Derived.BigQuiet
import Derived.Deep.RegionWith
import Derived.Deep.RegionHeld3
import Derived.Deep.OwnRows
namespace Go.Proofs.Ytjbeloljbjfibaa
open Go.ChangeShapes Go.WideShapes Go.ChangeAt Go.RowKit
set_option linter.unusedVariables false


/-- a copy, made by appending to an empty literal -/
theorem copied1 {k : IntKind} {e : TypeId} {W W1 : World} {m : Nat} {zs : List Int} {v : Value} (ho : W1.ownsRow W.heap.size e 1 v (0 + m) ([] ++ zs.map (Value.int k))) (hg : (W.alloc (.cells #[] e)).grownBy W1 (Value.slice (some ⟨W.heap.size, 0, none⟩) 0 0).ownBlock)
    {a : Option Addr} {wz : World} (hr : Reads k wz a m zs) : ∃ b c, v = .slice b m c ∧ Reads k W1 b m zs ∧ Below W.heap.size W W1 ∧ (b = none → c = 0) ∧ m ≤ c ∧ ∀ y, b = some y → W.heap.size ≤ y.block := by
  obtain ⟨a1, c1, e1, r1, hb, n1, l1⟩ := copied (W := W) (w := W) (Below.refl _ W) (.cells #[] e) ho hg hr
  refine ⟨a1, c1, e1, r1, hb, n1, l1, fun y hy => ?_⟩
  simp only [Nat.zero_add, List.nil_append] at ho
  rw [e1, hy] at ho
  exact (ho.lt y.block (by simp [Value.ownBlock])).1

theorem next_call (cb k n c : Nat) (x : Addr) (zs : List Int) (W : World) (hq : Blk 81 W cb #[.slice (some x) n c]) (hr : Reads .i8 W (some x) n zs) (hk : k ≤ n) (hc : n ≤ c) (hn : n ≤ 100000) :
    Calls Try.prog 55 #[.pointer (some ⟨cb, 0, none⟩), .int .i64 (k : Int)] W fun e W' => ∃ b c' y, e = .returned (.slice b k c') ∧ Reads .i8 W' b k (zs.take k) ∧ (b = none → c' = 0) ∧ k ≤ c' ∧ (∀ y, b = some y → W.heap.size ≤ y.block) ∧
      Blk 81 W' cb #[.slice (some y) (n - k) (c - k)] ∧ y.block = x.block ∧ Reads .i8 W (some y) (n - k) (zs.drop k) ∧ n - k ≤ c - k ∧ Only cb W W' := by
  obtain ⟨i0, hi, hz0, hz1, hz2⟩ := i46
  have c0 : W.cell? ⟨cb, 0, none⟩ = some (.slice (some x) n c) := hq.cell 0 rfl
  have hkc : (k : Int) ≤ (c : Int) := by omega
  have hkn : (k : Int) ≤ (n : Int) := by omega
  have k0 : (0 : Int) ≤ (k : Int) := by omega
  obtain ⟨y, ey, yb, ry⟩ : ∃ y : Addr, (if c = k then some x else some (x.add k)) = some y ∧ y.block = x.block ∧ Reads .i8 W (some y) (n - k) (zs.drop k) := by
    by_cases e : c = k
    · refine ⟨x, by rw [if_pos e], rfl, ?_⟩
      have hl := hr.len
      rw [show n - k = 0 by omega, List.drop_eq_nil_of_le (by omega)]
      exact ⟨rfl, by omega, fun i => by simpa using wf_nought .i8, fun h => by omega, fun _ _ i hi => by omega⟩
    · refine ⟨x.add k, by rw [if_neg e], by unfold Addr.add; split <;> rfl, ?_⟩
      have := hr.cut k (n - k) (by omega)
      rwa [List.take_of_length_le (by rw [List.length_drop, hr.len]; omega)] at this
  have hcb := hq.lt
  have key : ∀ W1, Below W.heap.size W W1 → W1.cell? ⟨cb, 0, none⟩ = some (.slice (some x) n c) ∧ W1.frozen? ⟨cb, 0, none⟩ = false ∧ Hid (Blk 81 W1 cb #[.slice (some x) n c]) := fun W1 hb => ⟨(hq.kept hb).cell 0 rfl, (hq.kept hb).open_ 0, hq.kept hb⟩
  have rt : Reads .i8 W (some x) k (zs.take k) := by have := hr.cut 0 k (by omega); simpa [Addr.add] using this
  have rt' : Reads .i8 (W.alloc (.cells #[] 46)) (some x) k (zs.take k) := rt.below (below_new (Below.refl _ _) _)
  have c0' : (W.alloc (.cells #[] 46)).cell? ⟨cb, 0, none⟩ = some (.slice (some x) n c) := (hq.kept (below_new (Below.refl _ _) _)).cell 0 rfl
  have own0 : (W.alloc (.cells #[] 46)).ownsRow W.heap.size 46 1 (.slice (some ⟨W.heap.size, 0, none⟩) 0 0) 0 [] := World.ownsRow_lit (base := W.heap.size) (size := 1) W #[] 0 (Nat.le_refl _) (by unfold maxLen; omega) (by simp)
  have HK := hidden_ key
  clear key hq
  go_enter Try.func55, Try.ntmps55
  go_wp2_with (first
    | (at_builtin; refine wpList_copy rfl _ _ 26 rfl W.heap.size 46 i0 (.int .i8 0) 1 Try.underlying26 hi hz0 hz1 hz2 rfl _ 0 [] rfl own0 .i8 (some x) k c (zs.take k) rfl rt' (by intro h; cases h) (by unfold maxLen; omega) (by omega) (by simp) ?_; intro v1 W1 ho hg; obtain ⟨b, cb1, rfl, r1, hb, f1, f2, f3⟩ := copied1 ho hg rt; obtain ⟨g1, g2, g3⟩ := HK.out W1 hb; clear ho hg own0 c0'))
  go_ret
  refine ⟨b, cb1, y, rfl, ?_, f1, f2, f3, g3.out.set 0 _, yb, ry, by omega, (Only.of_below hb).trans (Only.set _ _ _ _)⟩
  exact r1.other (Only.set cb 0 W1 _) (fun z hz _ e => by have := f3 z hz; omega)

end Go.Proofs.Ytjbeloljbjfibaa
