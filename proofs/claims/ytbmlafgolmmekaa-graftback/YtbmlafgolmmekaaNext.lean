/- The document's Cut.Next: the next weights, as a list of their own. -/
import Derived.Test.YtbmlafgolmmekaaRows
import Derived.Test.YtbmlafgolmmekaaView
import Derived.Test.YtbmlafgolmmekaaOwn
import Derived.Test.YtbmlafgolmmekaaCfg
import Derived.Test.YtbmlafgolmmekaaCfgs
import Derived.Test.YtbmlafgolmmekaaCfgRef
import Derived.Test.YtbmlafgolmmekaaHeld
import Derived.Test.YtbmlafgolmmekaaReader
import Derived.Test.YtbmlafgolmmekaaSls
import Derived.Test.YtbmlafgolmmekaaSteps
import Derived.Test.YtbmlafgolmmekaaInv
import Derived.Test.YtbmlafgolmmekaaTyped
import Derived.Test.YtbmlafgolmmekaaAds
import Derived.Test.YtbmlafgolmmekaaRanges
import Derived.Test.YtbmlafgolmmekaaPlan
import Derived.Test.YtbmlafgolmmekaaShape
import Derived.WalkKit
import Derived.ProofKit
import Derived.OpenShut
import Derived.Below
import Derived.WalkLawsBesides
import Derived.Deep.QuietTactic
import Derived.BigQuiet
import Derived.Lib.QuietBelow
import Derived.Deep.RegionHeld3
import Derived.Orders
import Derived.ArgAppend
namespace Go.Proofs.Ytbmlafgolmmekaa
open Go.ChangeShapes Go.WideShapes Go.ChangeAt Go.RowKit
open Go.Sort hiding Below
set_option linter.unusedVariables false


/-- a copy, made by appending to an empty literal -/
theorem copied1 {W W1 : World} {m : Nat} {zs : List Int} {v : Value} (ho : W1.ownsRow W.heap.size 62 1 v (0 + m) ([] ++ zs.map (Value.int .i8))) (hg : (W.alloc (.cells #[] 62)).grownBy W1 (Value.slice (some ⟨W.heap.size, 0, none⟩) 0 0).ownBlock)
    {a : Option Addr} {wz : World} (hr : Reads .i8 wz a m zs) : ∃ s : SL, v = .slice s.a s.n s.c ∧ s.n = m ∧ TS W.heap.size W1 s zs ∧ Below W.heap.size W W1 := by
  obtain ⟨a1, c1, e1, r1, hb, n1, l1⟩ := copied (W := W) (w := W) (Below.refl _ W) (.cells #[] 62) ho hg hr
  simp only [Nat.zero_add, List.nil_append] at ho
  subst e1
  have ty := own_typed ho
  refine ⟨⟨a1, m, c1⟩, rfl, rfl, ⟨⟨r1, n1, l1⟩, fun y hy => ⟨?_, ty y hy⟩⟩, hb⟩
  have hy' : a1 = some y := hy
  rw [hy'] at ho
  exact (ho.lt y.block (by simp [Value.ownBlock])).1

/-- the document's Cut at block cb: q lists of N are cut off -/
def CutA (w : World) (ws : List Int) (T N q cb : Nat) (W : World) : Prop := ∃ (y : Addr) (c : Nat), Blk 75 W cb #[.slice (some y) (T - q * N) c] ∧ Reads .i8 w (some y) (T - q * N) (ws.drop (q * N)) ∧ T - q * N ≤ c
theorem CutA.below {w : World} {ws : List Int} {T N q cb : Nat} {W W' : World} (h : CutA w ws T N q cb W) (hb : Below W.heap.size W W') : CutA w ws T N q cb W' := by
  obtain ⟨y, c, k, r, l⟩ := h
  exact ⟨y, c, k.kept hb, r, l⟩
theorem CutA.keeps {w : World} {ws : List Int} {T N q cb : Nat} {W W' : World} (h : CutA w ws T N q cb W) (hb : Keeps 75 W W') : CutA w ws T N q cb W' := by
  obtain ⟨y, c, k, r, l⟩ := h
  exact ⟨y, c, hb.blk k, r, l⟩

theorem next_call (w : World) (ws : List Int) (T N q cb : Nat) (W : World) (hC : CutA w ws T N q cb W) (hq : q * N + N ≤ T) (hT : T ≤ 100000) (hw : Below w.heap.size w W) :
    Calls Try.prog 46 #[.pointer (some ⟨cb, 0, none⟩), .int .i64 (N : Int)] W fun e W' => ∃ s : SL, e = .returned (.slice s.a s.n s.c) ∧ TS W.heap.size W' s (segA N ws q) ∧ CutA w ws T N (q + 1) cb W' ∧ Only cb W W' ∧ Keeps 24 W W' ∧ Keeps 52 W W' ∧ Keeps 62 W W' := by
  obtain ⟨i0, hi, hz0, hz1, hz2⟩ := i62'
  obtain ⟨x, c, hq0, hr0, hc⟩ := hC
  have enn : T - (q + 1) * N = T - q * N - N := by rw [Nat.add_mul, Nat.one_mul]; omega
  have edr : ws.drop ((q + 1) * N) = (ws.drop (q * N)).drop N := by rw [List.drop_drop, Nat.add_mul, Nat.one_mul]
  obtain ⟨n, en⟩ : ∃ n, T - q * N = n := ⟨_, rfl⟩
  have hk : N ≤ n := by omega
  have hn : n ≤ 100000 := by omega
  rw [en] at hq0 hr0 hc enn
  have hr := hr0.below hw
  have hkc : (N : Int) ≤ (c : Int) := by omega
  have hkn : (N : Int) ≤ (n : Int) := by omega
  have k0 : (0 : Int) ≤ (N : Int) := by omega
  obtain ⟨y, ey, ry⟩ : ∃ y : Addr, (if c = N then some x else some (x.add N)) = some y ∧ Reads .i8 w (some y) (n - N) ((ws.drop (q * N)).drop N) := by
    by_cases e : c = N
    · refine ⟨x, by rw [if_pos e], ?_⟩
      have hl := hr.len
      rw [show n - N = 0 by omega, List.drop_eq_nil_of_le (by omega)]
      exact ⟨rfl, by omega, fun i => by simpa using wf_nought .i8, fun h => by omega, fun _ _ i hi => by omega⟩
    · refine ⟨x.add N, by rw [if_neg e], ?_⟩
      have := hr0.cut N (n - N) (by omega)
      rwa [List.take_of_length_le (by rw [List.length_drop, hr.len]; omega)] at this
  have c0 : W.cell? ⟨cb, 0, none⟩ = some (.slice (some x) n c) := hq0.cell 0 rfl
  have key : ∀ W1, Below W.heap.size W W1 → W1.cell? ⟨cb, 0, none⟩ = some (.slice (some x) n c) ∧ W1.frozen? ⟨cb, 0, none⟩ = false ∧ Hid (Blk 75 W1 cb #[.slice (some x) n c]) := fun W1 hb => ⟨(hq0.kept hb).cell 0 rfl, (hq0.kept hb).open_ 0, hq0.kept hb⟩
  have rt : Reads .i8 W (some x) N (segA N ws q) := by have := hr.cut 0 N (by omega); simpa [Addr.add, segA] using this
  have rt' : Reads .i8 (W.alloc (.cells #[] 62)) (some x) N (segA N ws q) := rt.below (below_new (Below.refl _ _) _)
  have c0' : (W.alloc (.cells #[] 62)).cell? ⟨cb, 0, none⟩ = some (.slice (some x) n c) := (hq0.kept (below_new (Below.refl _ _) _)).cell 0 rfl
  have own0 : (W.alloc (.cells #[] 62)).ownsRow W.heap.size 62 1 (.slice (some ⟨W.heap.size, 0, none⟩) 0 0) 0 [] := World.ownsRow_lit (base := W.heap.size) (size := 1) W #[] 0 (Nat.le_refl _) (by unfold maxLen; omega) (by simp)
  have HK := hidden_ key
  have HR := hidden_ ry
  have HE := hidden_ (And.intro enn edr)
  have HT := hidden_ rt
  clear key hq0 ry enn edr hr hr0 en rt
  go_enter Try.func46, Try.ntmps46
  go_wp2_with (first
    | (at_builtin; refine wpList_copy rfl _ _ 33 rfl W.heap.size 62 i0 (.int .i8 0) 1 Try.underlying33 hi hz0 hz1 hz2 rfl _ 0 [] rfl own0 .i8 (some x) N c (segA N ws q) rfl rt' (by intro h; cases h) (by unfold maxLen; omega) (by omega) (by simp) ?_; intro v1 W1 ho hg; obtain ⟨s, rfl, -, ts, hb⟩ := copied1 ho hg HT.out; obtain ⟨g1, g2, g3⟩ := HK.out W1 hb; clear ho hg own0 c0'))
  go_ret
  have on := Only.set cb 0 W1 (.slice (some y) (n - N) (c - N))
  refine ⟨s, rfl, ts.step (Keeps.of_only on g3.out (by decide)), ⟨y, c - N, ?_, ?_, ?_⟩, (Only.of_below hb).trans on, (Keeps.of_below hb).trans (Keeps.of_only on g3.out (by decide)), (Keeps.of_below hb).trans (Keeps.of_only on g3.out (by decide)), (Keeps.of_below hb).trans (Keeps.of_only on g3.out (by decide))⟩
  · rw [HE.out.1]; exact g3.out.set 0 _
  · rw [HE.out.1, HE.out.2]; exact HR.out
  · rw [HE.out.1]; omega

end Go.Proofs.Ytbmlafgolmmekaa
