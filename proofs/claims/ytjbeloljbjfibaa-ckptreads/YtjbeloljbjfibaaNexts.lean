/- Texts put together: Next, Next2. -/
import Derived.Test.YtjbeloljbjfibaaRows
import Derived.Test.YtjbeloljbjfibaaLayer8
import Derived.Test.YtjbeloljbjfibaaConf
import Derived.Test.YtjbeloljbjfibaaBlank
import Derived.Test.YtjbeloljbjfibaaCfgRef
import Derived.Test.YtjbeloljbjfibaaSize
import Derived.Test.YtjbeloljbjfibaaSizes
import Derived.Test.YtjbeloljbjfibaaSteps
import Derived.Test.YtjbeloljbjfibaaClo54
import Derived.Test.YtjbeloljbjfibaaFill
import Derived.Test.YtjbeloljbjfibaaMods
import Derived.WalkKit
import Derived.ProofKit
import Derived.OpenShut
import Derived.Below
import Derived.WalkLawsBesides
import Derived.Deep.QuietTactic
import Derived.BigQuiet
import Derived.Deep.RegionWith
import Derived.Deep.RegionHeld3
import Derived.Deep.OwnRows
import Derived.Test.YtjbeloljbjfibaaFills
import Derived.Test.YtjbeloljbjfibaaShape
import Derived.Test.YtjbeloljbjfibaaTypedC
namespace Go.Proofs.Ytjbeloljbjfibaa

/- The document's Cut: the next weights, as a list of their own. -/
section
open Go.ChangeShapes Go.WideShapes Go.ChangeAt Go.RowKit
set_option linter.unusedVariables false


/-- a copy, made by appending to an empty literal -/
theorem copied1 {k : IntKind} {e : TypeId} {W W1 : World} {m : Nat} {zs : List Int} {v : Value} (ho : W1.ownsRow W.heap.size e 1 v (0 + m) ([] ++ zs.map (Value.int k))) (hg : (W.alloc (.cells #[] e)).grownBy W1 (Value.slice (some ⟨W.heap.size, 0, none⟩) 0 0).ownBlock)
    {a : Option Addr} {wz : World} (hr : Reads k wz a m zs) : ∃ b c, v = .slice b m c ∧ Reads k W1 b m zs ∧ Below W.heap.size W W1 ∧ (b = none → c = 0) ∧ m ≤ c ∧ ∀ y, b = some y → W.heap.size ≤ y.block := by
  obtain ⟨a1, c1, e1, r1, hb, n1, l1⟩ := copied (W := W) (w := W) (Below.refl _ W) (.cells #[] e) ho hg hr
  refine ⟨a1, c1, e1, r1, hb, n1, l1, fun y hy => ?_⟩
  simp only [Nat.zero_add, List.nil_append] at ho
  rw [e1, hy] at ho
  exact (ho.lt y.block (by simp [Value.ownBlock])).1

theorem next_call (cb k n c : Nat) (x : Addr) (zs : List Int) (W : World) (hq : Blk 81 W cb #[.slice (some x) n c]) (hr : Reads .i8 W (some x) n zs) (hk : k ≤ n) (hc : n ≤ c) (hn : n ≤ 100000) :
    Calls Try.prog 55 #[.pointer (some ⟨cb, 0, none⟩), .int .i64 (k : Int)] W fun e W' => ∃ b c' y, e = .returned (.slice b k c') ∧ Reads .i8 W' b k (zs.take k) ∧ (b = none → c' = 0) ∧ k ≤ c' ∧ (∀ y, b = some y → W.heap.size ≤ y.block) ∧
      Blk 81 W' cb #[.slice (some y) (n - k) (c - k)] ∧ y.block = x.block ∧ Reads .i8 W (some y) (n - k) (zs.drop k) ∧ n - k ≤ c - k ∧ Only cb W W' := by
  obtain ⟨i0, hi, hz0, hz1, hz2⟩ := i46
  have c0 : W.cell? ⟨cb, 0, none⟩ = some (.slice (some x) n c) := hq.cell 0 rfl
  have hkc : (k : Int) ≤ (c : Int) := by omega
  have hkn : (k : Int) ≤ (n : Int) := by omega
  have k0 : (0 : Int) ≤ (k : Int) := by omega
  obtain ⟨y, ey, yb, ry⟩ : ∃ y : Addr, (if c = k then some x else some (x.add k)) = some y ∧ y.block = x.block ∧ Reads .i8 W (some y) (n - k) (zs.drop k) := by
    by_cases e : c = k
    · refine ⟨x, by rw [if_pos e], rfl, ?_⟩
      have hl := hr.len
      rw [show n - k = 0 by omega, List.drop_eq_nil_of_le (by omega)]
      exact ⟨rfl, by omega, fun i => by simpa using wf_nought .i8, fun h => by omega, fun _ _ i hi => by omega⟩
    · refine ⟨x.add k, by rw [if_neg e], by unfold Addr.add; split <;> rfl, ?_⟩
      have := hr.cut k (n - k) (by omega)
      rwa [List.take_of_length_le (by rw [List.length_drop, hr.len]; omega)] at this
  have hcb := hq.lt
  have key : ∀ W1, Below W.heap.size W W1 → W1.cell? ⟨cb, 0, none⟩ = some (.slice (some x) n c) ∧ W1.frozen? ⟨cb, 0, none⟩ = false ∧ Hid (Blk 81 W1 cb #[.slice (some x) n c]) := fun W1 hb => ⟨(hq.kept hb).cell 0 rfl, (hq.kept hb).open_ 0, hq.kept hb⟩
  have rt : Reads .i8 W (some x) k (zs.take k) := by have := hr.cut 0 k (by omega); simpa [Addr.add] using this
  have rt' : Reads .i8 (W.alloc (.cells #[] 46)) (some x) k (zs.take k) := rt.below (below_new (Below.refl _ _) _)
  have c0' : (W.alloc (.cells #[] 46)).cell? ⟨cb, 0, none⟩ = some (.slice (some x) n c) := (hq.kept (below_new (Below.refl _ _) _)).cell 0 rfl
  have own0 : (W.alloc (.cells #[] 46)).ownsRow W.heap.size 46 1 (.slice (some ⟨W.heap.size, 0, none⟩) 0 0) 0 [] := World.ownsRow_lit (base := W.heap.size) (size := 1) W #[] 0 (Nat.le_refl _) (by unfold maxLen; omega) (by simp)
  have HK := hidden_ key
  clear key hq
  go_enter Try.func55, Try.ntmps55
  go_wp2_with (first
    | (at_builtin; refine wpList_copy rfl _ _ 26 rfl W.heap.size 46 i0 (.int .i8 0) 1 Try.underlying26 hi hz0 hz1 hz2 rfl _ 0 [] rfl own0 .i8 (some x) k c (zs.take k) rfl rt' (by intro h; cases h) (by unfold maxLen; omega) (by omega) (by simp) ?_; intro v1 W1 ho hg; obtain ⟨b, cb1, rfl, r1, hb, f1, f2, f3⟩ := copied1 ho hg rt; obtain ⟨g1, g2, g3⟩ := HK.out W1 hb; clear ho hg own0 c0'))
  go_ret
  refine ⟨b, cb1, y, rfl, ?_, f1, f2, f3, g3.out.set 0 _, yb, ry, by omega, (Only.of_below hb).trans (Only.set _ _ _ _)⟩
  exact r1.other (Only.set cb 0 W1 _) (fun z hz _ e => by have := f3 z hz; omega)
end

/- The document's Cut.Next: the list that it answers lies in a row of the call's own. -/
section
open Go.ChangeShapes Go.WideShapes Go.ChangeAt Go.RowKit
set_option linter.unusedVariables false



theorem own_typed {w : World} {B n c : Nat} {a : Option Addr} {nn : Nat} {xs : List Value} (h : w.ownsRow B 46 1 (.slice a n c) nn xs) : ∀ y, a = some y → ∃ cur fz, w.heap[y.block]? = some (Obj.cells cur 46 fz) := by
  intro y hy
  rcases h.2 with ⟨h1, _⟩ | ⟨g, cap, cur, h1, _, h2, _⟩
  · rw [hy] at h1; simp at h1
  · simp only [Value.slice.injEq] at h1
    have e : y = ⟨g, 0, none⟩ := Option.some.inj (hy.symm.trans h1.1)
    rw [e]
    exact ⟨cur, (0, 0), h2⟩

theorem next_typed (cb k n c : Nat) (x : Addr) (zs : List Int) (W : World) (hq : Blk 81 W cb #[.slice (some x) n c]) (hr : Reads .i8 W (some x) n zs) (hk : k ≤ n) (hc : n ≤ c) (hn : n ≤ 100000) :
    Calls Try.prog 55 #[.pointer (some ⟨cb, 0, none⟩), .int .i64 (k : Int)] W fun e W' => ∃ (s : SL) (y : Addr), e = .returned (.slice s.a s.n s.c) ∧ s.n = k ∧ TS W.heap.size W' s (zs.take k) ∧
      Blk 81 W' cb #[.slice (some y) (n - k) (c - k)] ∧ y.block = x.block ∧ Reads .i8 W (some y) (n - k) (zs.drop k) ∧ n - k ≤ c - k ∧ Only cb W W' := by
  obtain ⟨i0, hi, hz0, hz1, hz2⟩ := i46
  have c0 : W.cell? ⟨cb, 0, none⟩ = some (.slice (some x) n c) := hq.cell 0 rfl
  have hkc : (k : Int) ≤ (c : Int) := by omega
  have hkn : (k : Int) ≤ (n : Int) := by omega
  have k0 : (0 : Int) ≤ (k : Int) := by omega
  obtain ⟨y, ey, yb, ry⟩ : ∃ y : Addr, (if c = k then some x else some (x.add k)) = some y ∧ y.block = x.block ∧ Reads .i8 W (some y) (n - k) (zs.drop k) := by
    by_cases e : c = k
    · refine ⟨x, by rw [if_pos e], rfl, ?_⟩
      have hl := hr.len
      rw [show n - k = 0 by omega, List.drop_eq_nil_of_le (by omega)]
      exact ⟨rfl, by omega, fun i => by simpa using wf_nought .i8, fun h => by omega, fun _ _ i hi => by omega⟩
    · refine ⟨x.add k, by rw [if_neg e], by unfold Addr.add; split <;> rfl, ?_⟩
      have := hr.cut k (n - k) (by omega)
      rwa [List.take_of_length_le (by rw [List.length_drop, hr.len]; omega)] at this
  have hcb := hq.lt
  have key : ∀ W1, Below W.heap.size W W1 → W1.cell? ⟨cb, 0, none⟩ = some (.slice (some x) n c) ∧ W1.frozen? ⟨cb, 0, none⟩ = false ∧ Hid (Blk 81 W1 cb #[.slice (some x) n c]) := fun W1 hb => ⟨(hq.kept hb).cell 0 rfl, (hq.kept hb).open_ 0, hq.kept hb⟩
  have rt : Reads .i8 W (some x) k (zs.take k) := by have := hr.cut 0 k (by omega); simpa [Addr.add] using this
  have rt' : Reads .i8 (W.alloc (.cells #[] 46)) (some x) k (zs.take k) := rt.below (below_new (Below.refl _ _) _)
  have c0' : (W.alloc (.cells #[] 46)).cell? ⟨cb, 0, none⟩ = some (.slice (some x) n c) := (hq.kept (below_new (Below.refl _ _) _)).cell 0 rfl
  have own0 : (W.alloc (.cells #[] 46)).ownsRow W.heap.size 46 1 (.slice (some ⟨W.heap.size, 0, none⟩) 0 0) 0 [] := World.ownsRow_lit (base := W.heap.size) (size := 1) W #[] 0 (Nat.le_refl _) (by unfold maxLen; omega) (by simp)
  have HK := hidden_ key
  clear key hq
  go_enter Try.func55, Try.ntmps55
  go_wp2_with (first
    | (at_builtin; refine wpList_copy rfl _ _ 26 rfl W.heap.size 46 i0 (.int .i8 0) 1 Try.underlying26 hi hz0 hz1 hz2 rfl _ 0 [] rfl own0 .i8 (some x) k c (zs.take k) rfl rt' (by intro h; cases h) (by unfold maxLen; omega) (by omega) (by simp) ?_; intro v1 W1 ho hg; obtain ⟨b, cb1, rfl, r1, hb, f1, f2, f3⟩ := copied1 ho hg rt; have ty := own_typed ho; obtain ⟨g1, g2, g3⟩ := HK.out W1 hb; clear ho hg own0 c0'))
  go_ret
  refine ⟨⟨b, k, cb1⟩, y, rfl, rfl, ?_, g3.out.set 0 _, yb, ry, by omega, (Only.of_below hb).trans (Only.set _ _ _ _)⟩
  have base : TS W.heap.size W1 ⟨b, k, cb1⟩ (zs.take k) := ⟨⟨r1, f1, f2⟩, fun z hz => ⟨f3 z hz, ty z hz⟩⟩
  exact base.step (Keeps.of_only (Only.set cb 0 W1 _) g3.out (by decide))

/-- weights that are cut from the front: T of N are gone; they lie in block sb -/
def CutAt (w : World) (xb sb N : Nat) (ws : List Int) (T : Nat) : Prop := ∃ (y : Addr) (c : Nat), Blk 81 w xb #[.slice (some y) (N - T) c] ∧ y.block = sb ∧ Reads .i8 w (some y) (N - T) (ws.drop T) ∧ N - T ≤ c

theorem CutAt.below {w w' : World} {xb sb N : Nat} {ws : List Int} {T : Nat} (h : CutAt w xb sb N ws T) (hb : Below w.heap.size w w') : CutAt w' xb sb N ws T := by
  obtain ⟨y, c, q, e, r, l⟩ := h
  exact ⟨y, c, q.kept hb, e, r.below hb, l⟩
theorem CutAt.only {w w' : World} {xb sb N g : Nat} {ws : List Int} {T : Nat} (h : CutAt w xb sb N ws T) (o : Only g w w') (h1 : xb ≠ g) (h2 : sb ≠ g) : CutAt w' xb sb N ws T := by
  obtain ⟨y, c, q, e, r, l⟩ := h
  exact ⟨y, c, (o.block xb q.lt (fun k => h1 (by simpa using k))).trans q, e, r.other o (fun x hx _ => by obtain rfl := Option.some.inj hx; omega), l⟩

/-- the k-th list, cut from the front -/
theorem next_seg {W : World} {xb sb N : Nat} {ws : List Int} {cnt : Nat → Nat} {k : Nat} (hc : CutAt W xb sb N ws (offs cnt k)) (hfit : offs cnt (k + 1) ≤ N) (hN : N ≤ 100000) (hsb : sb ≠ xb) :
    Calls Try.prog 55 #[.pointer (some ⟨xb, 0, none⟩), .int .i64 (cnt k : Int)] W fun e W' => ∃ s : SL, e = .returned (.slice s.a s.n s.c) ∧ TS W.heap.size W' s (seg cnt ws k) ∧ CutAt W' xb sb N ws (offs cnt (k + 1)) ∧ Only xb W W' := by
  obtain ⟨y, c, q, e, r, l⟩ := hc
  have e1 : offs cnt (k + 1) = offs cnt k + cnt k := rfl
  refine (next_typed xb (cnt k) (N - offs cnt k) c y (ws.drop (offs cnt k)) W q r (by omega) l (by omega)).mono fun e' W' hh => ?_
  obtain ⟨s, z, h1, h2, h3, h4, h5, h6, h7, h8⟩ := hh
  refine ⟨s, h1, h3, ⟨z, c - cnt k, ?_, h5.trans e, ?_, ?_⟩, h8⟩
  · rw [e1, show N - (offs cnt k + cnt k) = N - offs cnt k - cnt k by omega]
    exact h4
  · rw [e1, show N - (offs cnt k + cnt k) = N - offs cnt k - cnt k by omega, ← List.drop_drop]
    exact h6.other h8 (fun x hx _ => by obtain rfl := Option.some.inj hx; omega)
  · rw [e1]; omega
end

end Go.Proofs.Ytjbeloljbjfibaa
