/- The closure of Shape: it cuts the next weights off, and lays a copy of them into a list of the model. -/
import Derived.Test.YtjbeloljbjfibaaRows
import Derived.Test.YtjbeloljbjfibaaLayer8
import Derived.Test.YtjbeloljbjfibaaConf
import Derived.Test.YtjbeloljbjfibaaBlank
import Derived.Test.YtjbeloljbjfibaaSteps
import Derived.WalkKit
import Derived.ProofKit
import Derived.OpenShut
import Derived.Below
import Derived.WalkLawsBesides
import Derived.Deep.QuietTactic
import Derived.BigQuiet
import Derived.Deep.RegionWith
import Derived.Deep.RegionHeld3
import Derived.Deep.OwnRows
namespace Go.Proofs.Ytjbeloljbjfibaa
open Go.ChangeShapes Go.WideShapes Go.ChangeAt Go.RowKit
set_option linter.unusedVariables false

theorem i46 : ∃ i : TypeInfo, Try.prog.info? 46 = some i ∧ i.zero = some (.int .i8 0) ∧ i.size = 1 ∧ i.bytes = 1 := by
  obtain ⟨i, hi, hzz⟩ := Option.map_eq_some_iff.1 info46
  simp only [Prod.mk.injEq] at hzz
  exact ⟨i, hi, hzz.1, hzz.2.1, hzz.2.2⟩

/-- a copy, made by appending to nothing -/
theorem copied0 {k : IntKind} {e : TypeId} {W W1 : World} {m : Nat} {zs : List Int} {v : Value} (ho : W1.ownsRow W.heap.size e 1 v (0 + m) ([] ++ zs.map (Value.int k))) (hg : W.grownBy W1 (Value.slice none 0 0).ownBlock)
    {a : Option Addr} {wz : World} (hr : Reads k wz a m zs) : ∃ b c, v = .slice b m c ∧ Reads k W1 b m zs ∧ Below W.heap.size W W1 ∧ (b = none → c = 0) ∧ m ≤ c ∧ ∀ y, b = some y → W.heap.size ≤ y.block := by
  simp only [Nat.zero_add, List.nil_append] at ho
  obtain ⟨a', c', rfl, r⟩ := own_reads ho hr.len hr.wf_mem (fun j hj => copy_at k zs j (by rw [hr.len]; exact hj))
  refine ⟨a', c', rfl, r, (Below.refl _ W).grown hg (Nat.le_refl _) (fun g h => by simp [Value.ownBlock] at h), fun ha => ?_, ?_, fun y hy => ?_⟩
  · subst ha
    rcases ho.2 with ⟨h, _⟩ | ⟨g, cap, cur, h, _⟩
    · simp only [Value.slice.injEq] at h
      exact h.2.2
    · simp at h
  · rcases ho.2 with ⟨h, _⟩ | ⟨g, cap, cur, h, _, _, hn, _⟩
    · omega
    · simp only [Value.slice.injEq] at h
      omega
  · rcases ho.2 with ⟨h, _⟩ | ⟨g, cap, cur, h, hg, _⟩
    · simp only [Value.slice.injEq] at h
      rw [h.1] at hy
      cases hy
    · simp only [Value.slice.injEq] at h
      rw [h.1] at hy
      obtain rfl := Option.some.inj hy
      exact hg

theorem closure54 (a : Addr) (vb k n c : Nat) (x : Addr) (zs : List Int) (W : World) (hq : Blk 26 W vb #[.slice (some x) n c]) (hr : Reads .i8 W (some x) n zs) (hk : k ≤ n) (hc : n ≤ c) (hn : n ≤ 100000) (old : Value)
    (ha : W.cell? a = some old) (hf : W.frozen? a = false) (hva : a.block ≠ vb) :
    Calls Try.prog 54 #[.pointer (some a), .int .i64 (k : Int), .pointer (some ⟨vb, 0, none⟩)] W fun e W' => e = .returned (.tuple #[]) ∧
      ∃ W1 b cb y, Below W.heap.size W W1 ∧ Reads .i8 W1 b k (zs.take k) ∧ (b = none → cb = 0) ∧ k ≤ cb ∧ (∀ y, b = some y → W.heap.size ≤ y.block) ∧ y.block = x.block ∧ Reads .i8 W (some y) (n - k) (zs.drop k) ∧ n - k ≤ c - k ∧
        W' = (W1.setCell a (.slice b k cb)).setCell ⟨vb, 0, none⟩ (.slice (some y) (n - k) (c - k)) := by
  obtain ⟨i0, hi, hz0, hz1, hz2⟩ := i46
  have c0 : W.cell? ⟨vb, 0, none⟩ = some (.slice (some x) n c) := hq.cell 0 rfl
  have hkc : (k : Int) ≤ (c : Int) := by omega
  have hkn : (k : Int) ≤ (n : Int) := by omega
  have k0 : (0 : Int) ≤ (k : Int) := by omega
  obtain ⟨y, ey, yb, ry⟩ : ∃ y : Addr, (if c = k then some x else some (x.add k)) = some y ∧ y.block = x.block ∧ Reads .i8 W (some y) (n - k) (zs.drop k) := by
    by_cases e : c = k
    · refine ⟨x, by rw [if_pos e], rfl, ?_⟩
      have hl := hr.len
      rw [show n - k = 0 by omega, List.drop_eq_nil_of_le (by omega)]
      exact ⟨rfl, by omega, fun i => by simpa using wf_nought .i8, fun h => by omega, fun _ _ i hi => by omega⟩
    · refine ⟨x.add k, by rw [if_neg e], by unfold Addr.add; split <;> rfl, ?_⟩
      have := hr.cut k (n - k) (by omega)
      rwa [List.take_of_length_le (by rw [List.length_drop, hr.len]; omega)] at this
  have key : ∀ W1 v, Below W.heap.size W W1 → W1.cell? a = some old ∧ W1.frozen? a = false ∧ (W1.setCell a v).cell? ⟨vb, 0, none⟩ = some (.slice (some x) n c) ∧ (W1.setCell a v).frozen? ⟨vb, 0, none⟩ = false := fun W1 v hb => by
    have q1 := (hq.kept hb).other (a := a) v (fun e => hva e.symm)
    exact ⟨(hb.cell (World.block_lt_of_cell? _ _ ha)).trans ha, (hb.frozen (World.block_lt_of_cell? _ _ ha)).trans hf, q1.cell 0 rfl, q1.open_ 0⟩
  have rt : Reads .i8 W (some x) k (zs.take k) := by have := hr.cut 0 k (by omega); simpa [Addr.add] using this
  go_enter Try.func54, Try.ntmps54
  go_wp2_with (first
    | (at_builtin; refine wpList_copy rfl _ _ 26 rfl W.heap.size 46 i0 (.int .i8 0) 1 Try.underlying26 hi hz0 hz1 hz2 rfl (.slice none 0 0) 0 [] rfl (World.ownsRow_nil _ _ _ _) .i8 (some x) k c (zs.take k) rfl rt (by intro h; cases h) (by unfold maxLen; omega) (by omega) (Nat.le_refl _) ?_; intro v1 W1 ho hg; obtain ⟨b, cb, rfl, r1, hb, f1, f2, f3⟩ := copied0 ho hg rt; obtain ⟨g1, g2, g3, g4⟩ := key W1 (.slice b k cb) hb; clear ho hg))
  go_end0
  exact ⟨rfl, W1, b, cb, y, hb, r1, f1, f2, f3, yb, ry, by omega, rfl⟩

end Go.Proofs.Ytjbeloljbjfibaa
