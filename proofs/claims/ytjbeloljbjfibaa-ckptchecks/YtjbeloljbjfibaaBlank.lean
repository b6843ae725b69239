/- blank: a model of a right configuration with no weights yet, as it lies in memory. -/
import Derived.Test.YtjbeloljbjfibaaRows
import Derived.Test.YtjbeloljbjfibaaLayer8
import Derived.Test.YtjbeloljbjfibaaConf
import Derived.WalkKit
import Derived.ProofKit
import Derived.OpenShut
import Derived.Below
import Derived.WalkLawsBesides
import Derived.Deep.QuietTactic
import Derived.BigQuiet
import Derived.Deep.RegionWith
import Derived.Deep.RegionHeld3
import Derived.Deep.OwnRows
namespace Go.Proofs.Ytjbeloljbjfibaa
open Go.ChangeShapes Go.WideShapes Go.ChangeAt Go.RowKit
set_option linter.unusedVariables false

abbrev nilS : Value := .slice none 0 0

theorem info59 : (Try.prog.info? 59).map (fun i => (i.zero, i.size, i.bytes)) = some (some (.agg #[nilS, nilS, nilS, nilS, nilS, nilS, nilS, nilS, nilS]), 9, 216) := by kernel_rfl
theorem info26 : (Try.prog.info? 26).map (fun i => (i.zero, i.size, i.bytes)) = some (some nilS, 1, 24) := by kernel_rfl

def ninth : Array Value := #[nilS, nilS, nilS, nilS, nilS, nilS, nilS, nilS, nilS]

theorem make_layers (n : Nat) (hn : n ≤ 1000) (w : World) : (Instr.makeSlice 27 (.int .i64 (n : Int)) (.int .i64 (n : Int))).run Try.prog w = .ok (.slice (some ⟨w.heap.size, 0, none⟩) n n) (w.alloc (.cells (madeCells ninth (n * 9)) 59)) := by
  obtain ⟨i, hi, hzz⟩ := Option.map_eq_some_iff.1 info59
  simp only [Prod.mk.injEq] at hzz
  obtain ⟨hz, hs, hb⟩ := hzz
  have hr := run_make (P := Try.prog) w 27 59 i _ Try.underlying27 hi hz .i64 .i64 n n (by omega) (Int.le_refl _) (by rw [hb]; omega) (by omega)
  simp only [Int.toNat_natCast, hs] at hr
  exact hr

theorem make_lists (n : Nat) (hn : n ≤ 1000) (w : World) : (Instr.makeSlice 57 (.int .i64 (n : Int)) (.int .i64 (n : Int))).run Try.prog w = .ok (.slice (some ⟨w.heap.size, 0, none⟩) n n) (w.alloc (.cells (madeCells #[nilS] n) 26)) :=
  run_make_row' 57 26 nilS 24 Try.underlying57 info26 rfl .i64 .i64 n (by omega) (by omega) w

theorem made_ninth (w : World) (n : Nat) : (w.alloc (.cells (madeCells ninth (n * 9)) 59)).rowIs w.heap.size 59 (n * 9) (fun _ => nilS) := by
  refine ⟨_, heap_alloc_new _ _, size_madeCells _ _, fun i hi => ?_⟩
  have : i % 9 < 9 := Nat.mod_lt _ (by omega)
  have e : ∀ k, k < 9 → ninth[k]! = nilS := fun k hk => by
    have : k = 0 ∨ k = 1 ∨ k = 2 ∨ k = 3 ∨ k = 4 ∨ k = 5 ∨ k = 6 ∨ k = 7 ∨ k = 8 := by omega
    rcases this with rfl | rfl | rfl | rfl | rfl | rfl | rfl | rfl | rfl <;> rfl
  simp [madeCells, hi]
  exact e _ this

theorem networks_call (d h l v u x t n : Int) (w : World) : Calls Try.prog 57 #[.agg #[.int .i64 d, .int .i64 h, .int .i64 l, .int .i64 v, .int .i64 u, .int .i64 x, .int .i64 t, .int .i64 n]] w fun e w' => e = .returned (.int .i64 (max x 1)) ∧ ∃ o, w' = w.alloc o := by
  rcases Int.lt_trichotomy x 1 with h0 | rfl | h0
  · rw [show max x 1 = 1 by omega]
    go_enter Try.func57, Try.ntmps57
    go_wp2
    go_ret
    exact ⟨rfl, _, rfl⟩
  · go_enter Try.func57, Try.ntmps57
    go_wp2
    go_ret
    exact ⟨rfl, _, rfl⟩
  · rw [show max x 1 = x by omega]
    go_enter Try.func57, Try.ntmps57
    go_wp2
    go_ret
    exact ⟨rfl, _, rfl⟩

/-- the cells of the layers, of which k are framed already: their Ups' and Downs' lists lie behind block b -/
def layF (b ne k p : Nat) : Value := if p % 9 = 7 ∧ p / 9 < k then .slice (some ⟨b + 4 + 4 * (p / 9), 0, none⟩) ne ne else if p % 9 = 8 ∧ p / 9 < k then .slice (some ⟨b + 6 + 4 * (p / 9), 0, none⟩) ne ne else nilS

/-- k layers of a blank model, at block b + 2 -/
structure Frames (b ln ne k : Nat) (W : World) : Prop where
  size : W.heap.size = b + 3 + 4 * k
  row : W.rowIs (b + 2) 59 (ln * 9) (layF b ne k)
  up : ∀ i, i < k → W.rowIs (b + 4 + 4 * i) 26 ne (fun _ => nilS)
  dn : ∀ i, i < k → W.rowIs (b + 6 + 4 * i) 26 ne (fun _ => nilS)

theorem at_mul (b i : Nat) : ((⟨b, 0, none⟩ : Addr).add (i * 9)).block = b ∧ ((⟨b, 0, none⟩ : Addr).add (i * 9)).off = i * 9 := by
  unfold Addr.add
  split <;> rename_i h
  · exact ⟨rfl, by simp [h]⟩
  · exact ⟨rfl, by simp⟩

theorem Frames.step {b ln ne k : Nat} {W : World} (h : Frames b ln ne k W) (hk : k < ln) (o1 o2 : Obj) :
    Frames b ln ne (k + 1) (((((((W.alloc o1).alloc (.cells (madeCells #[nilS] ne) 26)).setCell ⟨b + 2, k * 9 + 7, none⟩ (.slice (some ⟨b + 4 + 4 * k, 0, none⟩) ne ne)).alloc o2).alloc (.cells (madeCells #[nilS] ne) 26)).setCell ⟨b + 2, k * 9 + 8, none⟩ (.slice (some ⟨b + 6 + 4 * k, 0, none⟩) ne ne))) := by
  have s0 := h.size
  have n1 := World.rowIs_made (W.alloc o1) nilS ne 26
  have e1 : (W.alloc o1).heap.size = b + 4 + 4 * k := by simp; omega
  rw [e1] at n1
  have n2 := ((n1.setOther (a := ⟨b + 2, k * 9 + 7, none⟩) (by show b + 4 + 4 * k ≠ b + 2; omega) (.slice (some ⟨b + 4 + 4 * k, 0, none⟩) ne ne)).alloc o2).alloc (.cells (madeCells #[nilS] ne) 26)
  have n3 := n2.setOther (a := ⟨b + 2, k * 9 + 8, none⟩) (by show b + 4 + 4 * k ≠ b + 2; omega) (.slice (some ⟨b + 6 + 4 * k, 0, none⟩) ne ne)
  have m1 := World.rowIs_made ((((W.alloc o1).alloc (.cells (madeCells #[nilS] ne) 26)).setCell ⟨b + 2, k * 9 + 7, none⟩ (.slice (some ⟨b + 4 + 4 * k, 0, none⟩) ne ne)).alloc o2) nilS ne 26
  have e2 : ((((W.alloc o1).alloc (.cells (madeCells #[nilS] ne) 26)).setCell ⟨b + 2, k * 9 + 7, none⟩ (.slice (some ⟨b + 4 + 4 * k, 0, none⟩) ne ne)).alloc o2).heap.size = b + 6 + 4 * k := by simp [World.setCell]; omega
  rw [e2] at m1
  have m2 := m1.setOther (a := ⟨b + 2, k * 9 + 8, none⟩) (by show b + 6 + 4 * k ≠ b + 2; omega) (.slice (some ⟨b + 6 + 4 * k, 0, none⟩) ne ne)
  refine ⟨by simp [World.setCell]; omega, ?_, fun i hi => ?_, fun i hi => ?_⟩
  · have r := (((((h.row.alloc o1).alloc (.cells (madeCells #[nilS] ne) 26)).set (k * 9 + 7) (.slice (some ⟨b + 4 + 4 * k, 0, none⟩) ne ne)).alloc o2).alloc (.cells (madeCells #[nilS] ne) 26)).set (k * 9 + 8) (.slice (some ⟨b + 6 + 4 * k, 0, none⟩) ne ne)
    refine r.congr fun p hp => ?_
    unfold layF
    by_cases c8 : p = k * 9 + 8
    · subst c8
      rw [if_pos rfl, if_neg (by omega), if_pos ⟨by omega, by omega⟩, show (k * 9 + 8) / 9 = k by omega]
    · rw [if_neg c8]
      by_cases c7 : p = k * 9 + 7
      · subst c7
        rw [if_pos rfl, if_pos ⟨by omega, by omega⟩, show (k * 9 + 7) / 9 = k by omega]
      · rw [if_neg c7]
        by_cases a7 : p % 9 = 7 ∧ p / 9 < k
        · rw [if_pos a7, if_pos ⟨a7.1, by omega⟩]
        · rw [if_neg a7, if_neg (show ¬ (p % 9 = 7 ∧ p / 9 < k + 1) by omega)]
          by_cases a8 : p % 9 = 8 ∧ p / 9 < k
          · rw [if_pos a8, if_pos ⟨a8.1, by omega⟩]
          · rw [if_neg a8, if_neg (by omega)]
  · by_cases e : i = k
    · subst e; exact n3
    · exact (((((h.up i (by omega)).alloc o1).alloc _).setOther (by show b + 4 + 4 * i ≠ b + 2; omega) _).alloc o2).alloc _ |>.setOther (by show b + 4 + 4 * i ≠ b + 2; omega) _
  · by_cases e : i = k
    · subst e; exact m2
    · exact (((((h.dn i (by omega)).alloc o1).alloc _).setOther (by show b + 6 + 4 * i ≠ b + 2; omega) _).alloc o2).alloc _ |>.setOther (by show b + 6 + 4 * i ≠ b + 2; omega) _

theorem Blk.new_at (t : TypeId) (w : World) (cs : Array Value) (g : Nat) (hg : g = w.heap.size) : Blk t (w.alloc (.cells cs t)) g cs := by
  subst hg
  exact Blk.new t w cs

theorem Frames.start (w W : World) (ln ne : Nat) (h : W.heap.size = w.heap.size + 2) : Frames w.heap.size ln ne 0 (W.alloc (.cells (madeCells ninth (ln * 9)) 59)) := by
  refine ⟨by simp; omega, ?_, fun i hi => by omega, fun i hi => by omega⟩
  have r := made_ninth W ln
  rw [h] at r
  refine r.congr fun p hp => ?_
  unfold layF
  rw [if_neg (by omega), if_neg (by omega)]

theorem Blk.other {t : TypeId} {w : World} {b : Nat} {cs : Array Value} (h : Blk t w b cs) {a : Addr} (v : Value) (ha : b ≠ a.block) : Blk t (w.setCell a v) b cs := (Below.heap_setCell _ _ _ _ ha).trans h

theorem Frames.only {b ln ne k : Nat} {W W' : World} (h : Frames b ln ne k W) (o : Only (b + 1) W W') (hz : W'.heap.size = W.heap.size) : Frames b ln ne k W' :=
  ⟨hz.trans h.size, h.row.of_block (o.block _ h.row.lt (fun e => by have := Option.some.inj e; omega)), fun i hi => (h.up i hi).of_block (o.block _ (h.up i hi).lt (fun e => by have := Option.some.inj e; omega)),
    fun i hi => (h.dn i hi).of_block (o.block _ (h.dn i hi).lt (fun e => by have := Option.some.inj e; omega))⟩

theorem set12 {t : TypeId} {W : World} {b : Nat} {x0 x1 x2 x3 x4 x5 x6 x7 x8 x9 x10 x11 : Value} (h : Blk t W b #[x0, x1, x2, x3, x4, x5, x6, x7, x8, x9, x10, x11]) (v0 v1 v2 v3 v4 v5 v6 v7 v8 v9 v10 v11 : Value) :
    ∃ W', ((((((((((((W.setCell ⟨b, 0, none⟩ v0).setCell ⟨b, 1, none⟩ v1).setCell ⟨b, 2, none⟩ v2).setCell ⟨b, 3, none⟩ v3).setCell ⟨b, 4, none⟩ v4).setCell ⟨b, 5, none⟩ v5).setCell ⟨b, 6, none⟩ v6).setCell ⟨b, 7, none⟩ v7).setCell ⟨b, 8, none⟩ v8).setCell ⟨b, 9, none⟩ v9).setCell ⟨b, 10, none⟩ v10).setCell ⟨b, 11, none⟩ v11) = W' ∧ Blk t W' b #[v0, v1, v2, v3, v4, v5, v6, v7, v8, v9, v10, v11] ∧ Only b W W' ∧ W'.heap.size = W.heap.size := by
  have z0 : W.heap.size = W.heap.size := rfl
  have s1 : Blk t (W.setCell ⟨b, 0, none⟩ v0) b #[v0, x1, x2, x3, x4, x5, x6, x7, x8, x9, x10, x11] := h.set 0 v0
  have n1 := (Only.set b 0 W v0)
  have z1 : (W.setCell ⟨b, 0, none⟩ v0).heap.size = W.heap.size := (by simp [World.setCell] : _ = W.heap.size).trans z0
  obtain ⟨W1, e1⟩ : ∃ W1, W.setCell ⟨b, 0, none⟩ v0 = W1 := ⟨_, rfl⟩
  rw [e1] at s1 n1 z1 ⊢
  have s2 : Blk t (W1.setCell ⟨b, 1, none⟩ v1) b #[v0, v1, x2, x3, x4, x5, x6, x7, x8, x9, x10, x11] := s1.set 1 v1
  have n2 := n1.trans (Only.set b 1 W1 v1)
  have z2 : (W1.setCell ⟨b, 1, none⟩ v1).heap.size = W.heap.size := (by simp [World.setCell] : _ = W1.heap.size).trans z1
  obtain ⟨W2, e2⟩ : ∃ W2, W1.setCell ⟨b, 1, none⟩ v1 = W2 := ⟨_, rfl⟩
  rw [e2] at s2 n2 z2 ⊢
  have s3 : Blk t (W2.setCell ⟨b, 2, none⟩ v2) b #[v0, v1, v2, x3, x4, x5, x6, x7, x8, x9, x10, x11] := s2.set 2 v2
  have n3 := n2.trans (Only.set b 2 W2 v2)
  have z3 : (W2.setCell ⟨b, 2, none⟩ v2).heap.size = W.heap.size := (by simp [World.setCell] : _ = W2.heap.size).trans z2
  obtain ⟨W3, e3⟩ : ∃ W3, W2.setCell ⟨b, 2, none⟩ v2 = W3 := ⟨_, rfl⟩
  rw [e3] at s3 n3 z3 ⊢
  have s4 : Blk t (W3.setCell ⟨b, 3, none⟩ v3) b #[v0, v1, v2, v3, x4, x5, x6, x7, x8, x9, x10, x11] := s3.set 3 v3
  have n4 := n3.trans (Only.set b 3 W3 v3)
  have z4 : (W3.setCell ⟨b, 3, none⟩ v3).heap.size = W.heap.size := (by simp [World.setCell] : _ = W3.heap.size).trans z3
  obtain ⟨W4, e4⟩ : ∃ W4, W3.setCell ⟨b, 3, none⟩ v3 = W4 := ⟨_, rfl⟩
  rw [e4] at s4 n4 z4 ⊢
  have s5 : Blk t (W4.setCell ⟨b, 4, none⟩ v4) b #[v0, v1, v2, v3, v4, x5, x6, x7, x8, x9, x10, x11] := s4.set 4 v4
  have n5 := n4.trans (Only.set b 4 W4 v4)
  have z5 : (W4.setCell ⟨b, 4, none⟩ v4).heap.size = W.heap.size := (by simp [World.setCell] : _ = W4.heap.size).trans z4
  obtain ⟨W5, e5⟩ : ∃ W5, W4.setCell ⟨b, 4, none⟩ v4 = W5 := ⟨_, rfl⟩
  rw [e5] at s5 n5 z5 ⊢
  have s6 : Blk t (W5.setCell ⟨b, 5, none⟩ v5) b #[v0, v1, v2, v3, v4, v5, x6, x7, x8, x9, x10, x11] := s5.set 5 v5
  have n6 := n5.trans (Only.set b 5 W5 v5)
  have z6 : (W5.setCell ⟨b, 5, none⟩ v5).heap.size = W.heap.size := (by simp [World.setCell] : _ = W5.heap.size).trans z5
  obtain ⟨W6, e6⟩ : ∃ W6, W5.setCell ⟨b, 5, none⟩ v5 = W6 := ⟨_, rfl⟩
  rw [e6] at s6 n6 z6 ⊢
  have s7 : Blk t (W6.setCell ⟨b, 6, none⟩ v6) b #[v0, v1, v2, v3, v4, v5, v6, x7, x8, x9, x10, x11] := s6.set 6 v6
  have n7 := n6.trans (Only.set b 6 W6 v6)
  have z7 : (W6.setCell ⟨b, 6, none⟩ v6).heap.size = W.heap.size := (by simp [World.setCell] : _ = W6.heap.size).trans z6
  obtain ⟨W7, e7⟩ : ∃ W7, W6.setCell ⟨b, 6, none⟩ v6 = W7 := ⟨_, rfl⟩
  rw [e7] at s7 n7 z7 ⊢
  have s8 : Blk t (W7.setCell ⟨b, 7, none⟩ v7) b #[v0, v1, v2, v3, v4, v5, v6, v7, x8, x9, x10, x11] := s7.set 7 v7
  have n8 := n7.trans (Only.set b 7 W7 v7)
  have z8 : (W7.setCell ⟨b, 7, none⟩ v7).heap.size = W.heap.size := (by simp [World.setCell] : _ = W7.heap.size).trans z7
  obtain ⟨W8, e8⟩ : ∃ W8, W7.setCell ⟨b, 7, none⟩ v7 = W8 := ⟨_, rfl⟩
  rw [e8] at s8 n8 z8 ⊢
  have s9 : Blk t (W8.setCell ⟨b, 8, none⟩ v8) b #[v0, v1, v2, v3, v4, v5, v6, v7, v8, x9, x10, x11] := s8.set 8 v8
  have n9 := n8.trans (Only.set b 8 W8 v8)
  have z9 : (W8.setCell ⟨b, 8, none⟩ v8).heap.size = W.heap.size := (by simp [World.setCell] : _ = W8.heap.size).trans z8
  obtain ⟨W9, e9⟩ : ∃ W9, W8.setCell ⟨b, 8, none⟩ v8 = W9 := ⟨_, rfl⟩
  rw [e9] at s9 n9 z9 ⊢
  have s10 : Blk t (W9.setCell ⟨b, 9, none⟩ v9) b #[v0, v1, v2, v3, v4, v5, v6, v7, v8, v9, x10, x11] := s9.set 9 v9
  have n10 := n9.trans (Only.set b 9 W9 v9)
  have z10 : (W9.setCell ⟨b, 9, none⟩ v9).heap.size = W.heap.size := (by simp [World.setCell] : _ = W9.heap.size).trans z9
  obtain ⟨W10, e10⟩ : ∃ W10, W9.setCell ⟨b, 9, none⟩ v9 = W10 := ⟨_, rfl⟩
  rw [e10] at s10 n10 z10 ⊢
  have s11 : Blk t (W10.setCell ⟨b, 10, none⟩ v10) b #[v0, v1, v2, v3, v4, v5, v6, v7, v8, v9, v10, x11] := s10.set 10 v10
  have n11 := n10.trans (Only.set b 10 W10 v10)
  have z11 : (W10.setCell ⟨b, 10, none⟩ v10).heap.size = W.heap.size := (by simp [World.setCell] : _ = W10.heap.size).trans z10
  obtain ⟨W11, e11⟩ : ∃ W11, W10.setCell ⟨b, 10, none⟩ v10 = W11 := ⟨_, rfl⟩
  rw [e11] at s11 n11 z11 ⊢
  have s12 : Blk t (W11.setCell ⟨b, 11, none⟩ v11) b #[v0, v1, v2, v3, v4, v5, v6, v7, v8, v9, v10, v11] := s11.set 11 v11
  have n12 := n11.trans (Only.set b 11 W11 v11)
  have z12 : (W11.setCell ⟨b, 11, none⟩ v11).heap.size = W.heap.size := (by simp [World.setCell] : _ = W11.heap.size).trans z11
  obtain ⟨W12, e12⟩ : ∃ W12, W11.setCell ⟨b, 11, none⟩ v11 = W12 := ⟨_, rfl⟩
  rw [e12] at s12 n12 z12 ⊢
  exact ⟨_, rfl, s12, n12, z12⟩

set_option maxHeartbeats 2000000 in
theorem blank_call (d h v u x t n : Int) (ln ne : Nat) (hl : ln ≤ 1000) (hne : ne ≤ 1000) (hx : max x 1 = (ne : Int)) (w : World) :
    Calls Try.prog 31 #[.agg #[.int .i64 d, .int .i64 h, .int .i64 (ln : Int), .int .i64 v, .int .i64 u, .int .i64 x, .int .i64 t, .int .i64 n]] w fun e w' =>
      e = .returned (.agg #[.int .i64 d, .int .i64 h, .int .i64 (ln : Int), .int .i64 v, .int .i64 u, .int .i64 x, .int .i64 t, .int .i64 n, nilS, .slice (some ⟨w.heap.size + 2, 0, none⟩) ln ln, nilS, nilS]) ∧ Below w.heap.size w w' ∧ Frames w.heap.size ln ne ln w' := by
  have kn := networks_call d h (ln : Int) v u x t n
  simp only [hx] at kn
  have m1 := make_layers ln hl
  have m2 := make_lists ne hne
  have b0 : 0 ≤ (ln : Int) := by omega
  go_enter Try.func31, Try.ntmps31
  go_wp2
  go_loopw [10] (fun i wr => ∃ k : Nat, k ≤ ln ∧ i = .int .i64 k ∧ Below w.heap.size w wr ∧ Blk 23 wr w.heap.size #[.int .i64 d, .int .i64 h, .int .i64 (ln : Int), .int .i64 v, .int .i64 u, .int .i64 x, .int .i64 t, .int .i64 n] ∧ Blk 29 wr (w.heap.size + 1) #[.int .i64 0, .int .i64 0, .int .i64 0, .int .i64 0, .int .i64 0, .int .i64 0, .int .i64 0, .int .i64 0, nilS, nilS, nilS, nilS] ∧ Frames w.heap.size ln ne k wr) (fun i _ => ln - (intOf i).toNat)
  case atStart =>
    refine ⟨0, Nat.zero_le _, rfl, ?_, ?_, ?_, ?_⟩
    · exact below_new (below_new (below_new (Below.refl _ w) _) _) _
    · exact (Blk.new 23 w _).kept (below_new (below_new (Below.refl _ _) _) _)
    · exact (Blk.new_at 29 (w.alloc _) _ _ (by simp)).kept (below_new (Below.refl _ _) _)
    · exact Frames.start w _ ln ne (by simp)
  case round =>
    obtain ⟨k, hk, rfl, hb, q0, q1, fr⟩ := hrel
    obtain ⟨c0, c1, c2, c3, c4, c5, c6, c7⟩ := q0.cfg
    by_cases hlt : k < ln
    · have hlt' : (k : Int) < (ln : Int) := by omega
      have sz := fr.size
      have s1 : ∀ o, (wr.alloc o).heap.size = w.heap.size + 4 + 4 * k := fun o => by simp; omega
      have key : ∀ W1 o1, W1 = wr.alloc o1 → W1.heap.size = w.heap.size + 4 + 4 * k ∧
          (W1.alloc (.cells (madeCells #[nilS] ne) 26)).cell? ⟨w.heap.size + 1 + 1, k * 9 + 7, none⟩ = some (layF w.heap.size ne k (k * 9 + 7)) ∧ (W1.alloc (.cells (madeCells #[nilS] ne) 26)).frozen? ⟨w.heap.size + 1 + 1, k * 9 + 7, none⟩ = false ∧
          Blk 23 ((W1.alloc (.cells (madeCells #[nilS] ne) 26)).setCell ⟨w.heap.size + 1 + 1, k * 9 + 7, none⟩ (.slice (some ⟨w.heap.size + 4 + 4 * k, 0, none⟩) ne ne)) w.heap.size #[.int .i64 d, .int .i64 h, .int .i64 (ln : Int), .int .i64 v, .int .i64 u, .int .i64 x, .int .i64 t, .int .i64 n] := fun W1 o1 e => by
        subst e
        exact ⟨s1 _, ((fr.row.alloc o1).alloc _).cell (by omega), ((fr.row.alloc o1).alloc _).frozen _, (q0.kept (below_new (below_new (Below.refl _ _) _) _)).other _ (by show w.heap.size ≠ w.heap.size + 1 + 1; omega)⟩
      have key2 : ∀ W1 o1 W2 o2, W1 = wr.alloc o1 → W2 = ((W1.alloc (.cells (madeCells #[nilS] ne) 26)).setCell ⟨w.heap.size + 1 + 1, k * 9 + 7, none⟩ (.slice (some ⟨w.heap.size + 4 + 4 * k, 0, none⟩) ne ne)).alloc o2 →
          W2.heap.size = w.heap.size + 6 + 4 * k ∧ (∃ v, (W2.alloc (.cells (madeCells #[nilS] ne) 26)).cell? ⟨w.heap.size + 1 + 1, k * 9 + 8, none⟩ = some v) ∧ (W2.alloc (.cells (madeCells #[nilS] ne) 26)).frozen? ⟨w.heap.size + 1 + 1, k * 9 + 8, none⟩ = false ∧
          Frames w.heap.size ln ne (k + 1) ((W2.alloc (.cells (madeCells #[nilS] ne) 26)).setCell ⟨w.heap.size + 1 + 1, k * 9 + 8, none⟩ (.slice (some ⟨w.heap.size + 6 + 4 * k, 0, none⟩) ne ne)) ∧
          Below w.heap.size w ((W2.alloc (.cells (madeCells #[nilS] ne) 26)).setCell ⟨w.heap.size + 1 + 1, k * 9 + 8, none⟩ (.slice (some ⟨w.heap.size + 6 + 4 * k, 0, none⟩) ne ne)) ∧
          Blk 23 ((W2.alloc (.cells (madeCells #[nilS] ne) 26)).setCell ⟨w.heap.size + 1 + 1, k * 9 + 8, none⟩ (.slice (some ⟨w.heap.size + 6 + 4 * k, 0, none⟩) ne ne)) w.heap.size #[.int .i64 d, .int .i64 h, .int .i64 (ln : Int), .int .i64 v, .int .i64 u, .int .i64 x, .int .i64 t, .int .i64 n] ∧
          Blk 29 ((W2.alloc (.cells (madeCells #[nilS] ne) 26)).setCell ⟨w.heap.size + 1 + 1, k * 9 + 8, none⟩ (.slice (some ⟨w.heap.size + 6 + 4 * k, 0, none⟩) ne ne)) (w.heap.size + 1) #[.int .i64 0, .int .i64 0, .int .i64 0, .int .i64 0, .int .i64 0, .int .i64 0, .int .i64 0, .int .i64 0, nilS, nilS, nilS, nilS] := fun W1 o1 W2 o2 e1 e2 => by
        subst e1 e2
        have r2 := ((((fr.row.alloc o1).alloc (.cells (madeCells #[nilS] ne) 26)).set (k * 9 + 7) (.slice (some ⟨w.heap.size + 4 + 4 * k, 0, none⟩) ne ne)).alloc o2).alloc (.cells (madeCells #[nilS] ne) 26)
        refine ⟨by simp [World.setCell]; omega, ⟨_, r2.cell (by omega)⟩, r2.frozen _, fr.step hlt o1 o2, ?_, ?_, ?_⟩
        · exact ((((((hb.alloc (by omega) o1).alloc (by simp; omega) _).setCell (by show w.heap.size ≤ w.heap.size + 1 + 1; omega) _).alloc (by simp [World.setCell]; omega) o2).alloc (by simp [World.setCell]; omega) _).setCell (by show w.heap.size ≤ w.heap.size + 1 + 1; omega) _)
        · exact (((q0.kept (below_new (below_new (Below.refl _ _) _) _)).other _ (by show w.heap.size ≠ w.heap.size + 1 + 1; omega)).kept (below_new (below_new (Below.refl _ _) _) _)).other _ (by show w.heap.size ≠ w.heap.size + 1 + 1; omega)
        · exact (((q1.kept (below_new (below_new (Below.refl _ _) _) _)).other _ (by show w.heap.size + 1 ≠ w.heap.size + 1 + 1; omega)).kept (below_new (below_new (Below.refl _ _) _) _)).other _ (by show w.heap.size + 1 ≠ w.heap.size + 1 + 1; omega)
      have HK := hidden_ key
      have HK2 := hidden_ key2
      clear key key2 hb fr q0 q1 sz s1
      go_wp2_with (first
        | (go_at_call 57; refine (kn _).mono ?_; rintro e W1 ⟨rfl, o1, hW1⟩; obtain ⟨s1, f1, f2, q2⟩ := HK.out W1 o1 hW1; obtain ⟨c0, c1, c2, c3, c4, c5, c6, c7⟩ := q2.cfg; replace HK := hidden_ hW1; clear hW1 q2)
        | (go_at_call 57; refine (kn _).mono ?_; rintro e W2 ⟨rfl, o2, hW2⟩; obtain ⟨s2, ⟨v2, f3⟩, f4, g1, g2, g3, g4⟩ := HK2.out W1 o1 W2 o2 HK.out hW2; clear HK HK2 hW2 f1 f2))
      go_roundw
      case rel => exact ⟨k + 1, by omega, by go_num, g2, g3, g4, g1⟩
      case measure => simp [intOf]; omega
    · have e : k = ln := by omega
      subst e
      have cs29 := fun i => q1.open_ i
      have o0 := cs29 0
      have o1 := cs29 1
      have o2 := cs29 2
      have o3 := cs29 3
      have o4 := cs29 4
      have o5 := cs29 5
      have o6 := cs29 6
      have o7 := cs29 7
      have o8 := cs29 8
      have o9 := cs29 9
      have o10 := cs29 10
      have o11 := cs29 11
      clear cs29
      have z0 := q1.cell 0 rfl
      have z1 := q1.cell 1 rfl
      have z2 := q1.cell 2 rfl
      have z3 := q1.cell 3 rfl
      have z4 := q1.cell 4 rfl
      have z5 := q1.cell 5 rfl
      have z6 := q1.cell 6 rfl
      have z7 := q1.cell 7 rfl
      have z8 := q1.cell 8 rfl
      have z9 := q1.cell 9 rfl
      have z10 := q1.cell 10 rfl
      have z11 := q1.cell 11 rfl
      go_wp2
      obtain ⟨W2, eW, q2, only, hz⟩ := set12 q1 (.int .i64 d) (.int .i64 h) (.int .i64 (k : Int)) (.int .i64 v) (.int .i64 u) (.int .i64 x) (.int .i64 t) (.int .i64 n) nilS (.slice (some ⟨w.heap.size + 1 + 1, 0, none⟩) k k) nilS nilS
      rw [eW]
      clear eW
      refine bodyPost_ret (v := .agg #[.int .i64 d, .int .i64 h, .int .i64 (k : Int), .int .i64 v, .int .i64 u, .int .i64 x, .int .i64 t, .int .i64 n, nilS, .slice (some ⟨w.heap.size + 1 + 1, 0, none⟩) k k, nilS, nilS]) ?_ rfl ⟨rfl, ?_, ?_⟩
      · have y0 := q2.cell 0 rfl
        have y1 := q2.cell 1 rfl
        have y2 := q2.cell 2 rfl
        have y3 := q2.cell 3 rfl
        have y4 := q2.cell 4 rfl
        have y5 := q2.cell 5 rfl
        have y6 := q2.cell 6 rfl
        have y7 := q2.cell 7 rfl
        have y8 := q2.cell 8 rfl
        have y9 := q2.cell 9 rfl
        have y10 := q2.cell 10 rfl
        have y11 := q2.cell 11 rfl
        simp [results, Try.results31, go_sem, y0, y1, y2, y3, y4, y5, y6, y7, y8, y9, y10, y11]
      · exact Only.below hb (by omega) (by have := fr.size; omega) only
      · exact fr.only only hz

end Go.Proofs.Ytjbeloljbjfibaa
