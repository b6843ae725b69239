/- visit with the closure of number 33: whatever the closure does list by list is done to all lists in order. -/
import Derived.Test.YtjbeloljbjfibaaRows
import Derived.Test.YtjbeloljbjfibaaLayer8
import Derived.Test.YtjbeloljbjfibaaConf
import Derived.WalkKit
import Derived.ProofKit
import Derived.OpenShut
import Derived.Below
import Derived.WalkLawsBesides
import Derived.Deep.QuietTactic
import Derived.BigQuiet
import Derived.Deep.RegionWith
import Derived.Deep.RegionHeld3
namespace Go.Proofs.Ytjbeloljbjfibaa
open Go.ChangeShapes Go.WideShapes Go.ChangeAt Go.RowKit
set_option linter.unusedVariables false

set_option maxHeartbeats 8000000 in
set_option maxRecDepth 20000 in
theorem visit_33 (d h l v u x t n : Int) (w : World) (mb vb ln lc ne : Nat) (LA : Addr) (UA DA : Nat → Addr) (uc dc : Nat → Nat) (vd dd xd ud : Int)
    (e1 : v * d = vd) (e2 : d * d = dd) (e3 : x * d = xd) (e4 : u * d = ud) (e5 : d * u = ud)
    (b1 : IntKind.i64.wrap vd = vd) (b2 : IntKind.i64.wrap dd = dd) (b3 : IntKind.i64.wrap xd = xd) (b4 : IntKind.i64.wrap ud = ud)
    (l1 : ln ≤ 1000) (l2 : ne ≤ 1000) (R : World → Prop) (hR : ∀ W, R W → Held mb w.heap.size ln lc ne LA UA DA uc dc d v u x W)
    (S0 T1 T2 : World → Prop) (K M M' : Nat → Nat → World → Prop)
    (h0 : w.cell? ⟨mb, 0, none⟩ = some (.int .i64 d) ∧ w.cell? ⟨mb, 1, none⟩ = some (.int .i64 h) ∧ w.cell? ⟨mb, 2, none⟩ = some (.int .i64 l) ∧ w.cell? ⟨mb, 3, none⟩ = some (.int .i64 v) ∧
      w.cell? ⟨mb, 4, none⟩ = some (.int .i64 u) ∧ w.cell? ⟨mb, 5, none⟩ = some (.int .i64 x) ∧ w.cell? ⟨mb, 6, none⟩ = some (.int .i64 t) ∧ w.cell? ⟨mb, 7, none⟩ = some (.int .i64 n))
    (hs : S0 (w.alloc (.cells #[.int .i64 d, .int .i64 h, .int .i64 l, .int .i64 v, .int .i64 u, .int .i64 x, .int .i64 t, .int .i64 n] 23))) (hs' : R (w.alloc (.cells #[.int .i64 d, .int .i64 h, .int .i64 l, .int .i64 v, .int .i64 u, .int .i64 x, .int .i64 t, .int .i64 n] 23)))
    (o0 : ∀ W, S0 W → R W → Calls Try.prog 33 #[.pointer (some ⟨mb, 8, none⟩), .int .i64 vd, .pointer (some ⟨vb, 0, none⟩)] W.drew fun e W' => e = .returned (.tuple #[]) ∧ K 0 0 W' ∧ R W')
    (p0 : ∀ i, i < ln → ∀ W, K i 0 W → R W → Calls Try.prog 33 #[.pointer (some (LA.add (i * 9))), .int .i64 d, .pointer (some ⟨vb, 0, none⟩)] W.drew fun e W' => e = .returned (.tuple #[]) ∧ K i 1 W' ∧ R W')
    (p1 : ∀ i, i < ln → ∀ W, K i 1 W → R W → Calls Try.prog 33 #[.pointer (some ⟨(LA.add (i * 9)).block, (LA.add (i * 9)).off + 1, none⟩), .int .i64 dd, .pointer (some ⟨vb, 0, none⟩)] W.drew fun e W' => e = .returned (.tuple #[]) ∧ K i 2 W' ∧ R W')
    (p2 : ∀ i, i < ln → ∀ W, K i 2 W → R W → Calls Try.prog 33 #[.pointer (some ⟨(LA.add (i * 9)).block, (LA.add (i * 9)).off + 2, none⟩), .int .i64 dd, .pointer (some ⟨vb, 0, none⟩)] W.drew fun e W' => e = .returned (.tuple #[]) ∧ K i 3 W' ∧ R W')
    (p3 : ∀ i, i < ln → ∀ W, K i 3 W → R W → Calls Try.prog 33 #[.pointer (some ⟨(LA.add (i * 9)).block, (LA.add (i * 9)).off + 3, none⟩), .int .i64 dd, .pointer (some ⟨vb, 0, none⟩)] W.drew fun e W' => e = .returned (.tuple #[]) ∧ K i 4 W' ∧ R W')
    (p4 : ∀ i, i < ln → ∀ W, K i 4 W → R W → Calls Try.prog 33 #[.pointer (some ⟨(LA.add (i * 9)).block, (LA.add (i * 9)).off + 4, none⟩), .int .i64 dd, .pointer (some ⟨vb, 0, none⟩)] W.drew fun e W' => e = .returned (.tuple #[]) ∧ K i 5 W' ∧ R W')
    (p5 : ∀ i, i < ln → ∀ W, K i 5 W → R W → Calls Try.prog 33 #[.pointer (some ⟨(LA.add (i * 9)).block, (LA.add (i * 9)).off + 5, none⟩), .int .i64 d, .pointer (some ⟨vb, 0, none⟩)] W.drew fun e W' => e = .returned (.tuple #[]) ∧ K i 6 W' ∧ R W')
    (p6 : ∀ i, i < ln → ∀ W, K i 6 W → R W → Calls Try.prog 33 #[.pointer (some ⟨(LA.add (i * 9)).block, (LA.add (i * 9)).off + 6, none⟩), .int .i64 xd, .pointer (some ⟨vb, 0, none⟩)] W.drew fun e W' => e = .returned (.tuple #[]) ∧ M i 0 W' ∧ R W')
    (p7 : ∀ i, i < ln → ∀ j, j < ne → ∀ W, M i j W → R W → Calls Try.prog 33 #[.pointer (some ((UA i).add j)), .int .i64 ud, .pointer (some ⟨vb, 0, none⟩)] W.drew fun e W' => e = .returned (.tuple #[]) ∧ M' i j W' ∧ R W')
    (p8 : ∀ i, i < ln → ∀ j, j < ne → ∀ W, M' i j W → R W → Calls Try.prog 33 #[.pointer (some ((DA i).add j)), .int .i64 ud, .pointer (some ⟨vb, 0, none⟩)] W.drew fun e W' => e = .returned (.tuple #[]) ∧ M i (j + 1) W' ∧ R W')
    (p9 : ∀ i, i < ln → ∀ W, M i ne W → K (i + 1) 0 W)
    (o1 : ∀ W, K ln 0 W → R W → Calls Try.prog 33 #[.pointer (some ⟨mb, 10, none⟩), .int .i64 d, .pointer (some ⟨vb, 0, none⟩)] W.drew fun e W' => e = .returned (.tuple #[]) ∧ T1 W' ∧ R W')
    (o2 : ∀ W, T1 W → R W → Calls Try.prog 33 #[.pointer (some ⟨mb, 11, none⟩), .int .i64 vd, .pointer (some ⟨vb, 0, none⟩)] W.drew fun e W' => e = .returned (.tuple #[]) ∧ T2 W' ∧ R W') :
    Calls Try.prog 32 #[.pointer (some ⟨mb, 0, none⟩), .func (.func 33) #[] #[.pointer (some ⟨vb, 0, none⟩)]] w fun e w' => e = .returned (.tuple #[]) ∧ T2 w' ∧ R w' := by
  have HR := hidden_ hR
  have Ho0 := hidden_ o0
  have Ho1 := hidden_ o1
  have Ho2 := hidden_ o2
  have Hp0 := hidden_ p0
  have Hp1 := hidden_ p1
  have Hp2 := hidden_ p2
  have Hp3 := hidden_ p3
  have Hp4 := hidden_ p4
  have Hp5 := hidden_ p5
  have Hp6 := hidden_ p6
  have Hp7 := hidden_ p7
  have Hp8 := hidden_ p8
  have Hp9 := hidden_ p9
  clear hR o0 o1 o2 p0 p1 p2 p3 p4 p5 p6 p7 p8 p9
  obtain ⟨a0, a1, a2, a3, a4, a5, a6, a7⟩ := h0
  obtain ⟨W0, eW⟩ : ∃ W0, w.alloc (.cells #[.int .i64 d, .int .i64 h, .int .i64 l, .int .i64 v, .int .i64 u, .int .i64 x, .int .i64 t, .int .i64 n] 23) = W0 := ⟨_, rfl⟩
  rw [eW] at hs hs'
  have k0 := Ho0.out _ hs hs'
  obtain ⟨c9, d0, d3, d4, d5, -, -⟩ := HR.out _ hs'
  clear hs hs'
  have EW := hidden_ eW
  clear eW
  go_enter Try.func32, Try.ntmps32
  go_wp2
  rw [EW.out]
  clear a0 a1 a2 a3 a4 a5 a6 a7 EW
  go_region_held3 (fun W => W.cell? ⟨w.heap.size, 0, none⟩ = some (.int .i64 d) ∧ W.cell? ⟨w.heap.size, 3, none⟩ = some (.int .i64 v)) (exact ⟨d0, d3⟩) (first
    | (go_at_call 33; refine k0.mono ?_; rintro e W1 ⟨rfl, i1, r1⟩; clear k0 c9 d0 d3 d4 d5; obtain ⟨c9, d0, d3, d4, d5, -, -⟩ := HR.out _ r1))
  rename World => W2
  go_wp2
  go_loopw [27] (fun i wr => ∃ k : Nat, k ≤ ln ∧ i = .int .i64 k ∧ K k 0 wr ∧ R wr) (fun i _ => ln - (intOf i).toNat)
  case atStart => exact ⟨0, Nat.zero_le _, rfl, i1, r1⟩
  case round =>
    clear c9 d0 d3 d4 d5 i1 r1
    obtain ⟨i, hi, rfl, i1, r1⟩ := hrel
    obtain ⟨c9, d0, d3, d4, d5, -, -⟩ := HR.out _ r1
    by_cases hlt : i < ln
    · have hlt' : (i : Int) < (ln : Int) := by omega
      have up := (HR.out _ r1).up i hlt
      have dn := (HR.out _ r1).dn i hlt
      have k0 := Hp0.out i hlt _ i1 r1
      clear i1 r1
      obtain ⟨P, eP⟩ : ∃ P, LA.add (i * 9) = P := ⟨_, rfl⟩
      have HH : Hid (∀ W, R W → W.cell? ⟨P.block, P.off + 7, none⟩ = some (.slice (some (UA i)) ne (uc i)) ∧ W.cell? ⟨P.block, P.off + 8, none⟩ = some (.slice (some (DA i)) ne (dc i))) := fun W hW => by rw [← eP]; exact ⟨(HR.out _ hW).up i hlt, (HR.out _ hW).dn i hlt⟩
      rw [eP] at k0 up dn
      go_wp2
      go_region_held3 (fun W => W.cell? ⟨w.heap.size, 0, none⟩ = some (.int .i64 d)) (exact d0) (first
        | (go_at_call 33; refine k0.mono ?_; rintro e W1 ⟨rfl, i1, r1⟩; clear k0 c9 d0 d3 d4 d5; obtain ⟨c9, d0, d3, d4, d5, -, -⟩ := HR.out _ r1))
      have k0 := Hp1.out i hlt _ i1 r1
      rw [eP] at k0
      clear i1 r1
      go_wp2
      go_region_held3 (fun W => W.cell? ⟨w.heap.size, 0, none⟩ = some (.int .i64 d) ∧ W.cell? ⟨w.heap.size, 0, none⟩ = some (.int .i64 d)) (exact ⟨d0, d0⟩) (first
        | (go_at_call 33; refine k0.mono ?_; rintro e W1 ⟨rfl, i1, r1⟩; clear k0 c9 d0 d3 d4 d5; obtain ⟨c9, d0, d3, d4, d5, -, -⟩ := HR.out _ r1))
      have k0 := Hp2.out i hlt _ i1 r1
      rw [eP] at k0
      clear i1 r1
      go_wp2
      go_region_held3 (fun W => W.cell? ⟨w.heap.size, 0, none⟩ = some (.int .i64 d) ∧ W.cell? ⟨w.heap.size, 0, none⟩ = some (.int .i64 d)) (exact ⟨d0, d0⟩) (first
        | (go_at_call 33; refine k0.mono ?_; rintro e W1 ⟨rfl, i1, r1⟩; clear k0 c9 d0 d3 d4 d5; obtain ⟨c9, d0, d3, d4, d5, -, -⟩ := HR.out _ r1))
      have k0 := Hp3.out i hlt _ i1 r1
      rw [eP] at k0
      clear i1 r1
      go_wp2
      go_region_held3 (fun W => W.cell? ⟨w.heap.size, 0, none⟩ = some (.int .i64 d) ∧ W.cell? ⟨w.heap.size, 0, none⟩ = some (.int .i64 d)) (exact ⟨d0, d0⟩) (first
        | (go_at_call 33; refine k0.mono ?_; rintro e W1 ⟨rfl, i1, r1⟩; clear k0 c9 d0 d3 d4 d5; obtain ⟨c9, d0, d3, d4, d5, -, -⟩ := HR.out _ r1))
      have k0 := Hp4.out i hlt _ i1 r1
      rw [eP] at k0
      clear i1 r1
      go_wp2
      go_region_held3 (fun W => W.cell? ⟨w.heap.size, 0, none⟩ = some (.int .i64 d) ∧ W.cell? ⟨w.heap.size, 0, none⟩ = some (.int .i64 d)) (exact ⟨d0, d0⟩) (first
        | (go_at_call 33; refine k0.mono ?_; rintro e W1 ⟨rfl, i1, r1⟩; clear k0 c9 d0 d3 d4 d5; obtain ⟨c9, d0, d3, d4, d5, -, -⟩ := HR.out _ r1))
      have k0 := Hp5.out i hlt _ i1 r1
      rw [eP] at k0
      clear i1 r1
      go_wp2
      go_region_held3 (fun W => W.cell? ⟨w.heap.size, 0, none⟩ = some (.int .i64 d)) (exact d0) (first
        | (go_at_call 33; refine k0.mono ?_; rintro e W1 ⟨rfl, i1, r1⟩; clear k0 c9 d0 d3 d4 d5; obtain ⟨c9, d0, d3, d4, d5, -, -⟩ := HR.out _ r1))
      have k0 := Hp6.out i hlt _ i1 r1
      rw [eP] at k0
      clear i1 r1
      go_wp2
      go_region_held3 (fun W => W.cell? ⟨w.heap.size, 0, none⟩ = some (.int .i64 d) ∧ W.cell? ⟨w.heap.size, 5, none⟩ = some (.int .i64 x)) (exact ⟨d0, d5⟩) (first
        | (go_at_call 33; refine k0.mono ?_; rintro e W1 ⟨rfl, i1, r1⟩; clear k0 c9 d0 d3 d4 d5; obtain ⟨c9, d0, d3, d4, d5, -, -⟩ := HR.out _ r1))
      obtain ⟨up, dn⟩ := HH.out _ r1
      rename World => W9
      go_wp2
      go_loopw [105] (fun j wr => ∃ k : Nat, k ≤ ne ∧ j = .int .i64 k ∧ M i k wr ∧ R wr) (fun j _ => ne - (intOf j).toNat)
      case atStart => exact ⟨0, Nat.zero_le _, rfl, i1, r1⟩
      case round =>
        clear c9 d0 d3 d4 d5 i1 r1 up dn
        obtain ⟨j, hj, rfl, i1, r1⟩ := hrel
        obtain ⟨c9, d0, d3, d4, d5, -, -⟩ := HR.out _ r1
        obtain ⟨up, dn⟩ := HH.out _ r1
        by_cases hlj : j < ne
        · have hlj' : (j : Int) < (ne : Int) := by omega
          have k0 := Hp7.out i hlt j hlj _ i1 r1
          clear i1 r1
          go_wp2
          go_region_held3 (fun W => W.cell? ⟨P.block, P.off + 7, none⟩ = some (.slice (some (UA i)) ne (uc i)) ∧ W.cell? ⟨w.heap.size, 4, none⟩ = some (.int .i64 u) ∧ W.cell? ⟨w.heap.size, 0, none⟩ = some (.int .i64 d)) (exact ⟨up, d4, d0⟩) (first
            | (go_at_call 33; refine k0.mono ?_; rintro e W1 ⟨rfl, i1, r1⟩; clear k0 c9 d0 d3 d4 d5 up dn; obtain ⟨c9, d0, d3, d4, d5, -, -⟩ := HR.out _ r1; obtain ⟨up, dn⟩ := HH.out _ r1))
          have k0 := Hp8.out i hlt j hlj _ i1 r1
          clear i1 r1
          go_wp2
          go_region_held3 (fun W => W.cell? ⟨P.block, P.off + 8, none⟩ = some (.slice (some (DA i)) ne (dc i)) ∧ W.cell? ⟨w.heap.size, 4, none⟩ = some (.int .i64 u) ∧ W.cell? ⟨w.heap.size, 0, none⟩ = some (.int .i64 d)) (exact ⟨dn, d4, d0⟩) (first
            | (go_at_call 33; refine k0.mono ?_; rintro e W1 ⟨rfl, i1, r1⟩; clear k0 c9 d0 d3 d4 d5 up dn; obtain ⟨c9, d0, d3, d4, d5, -, -⟩ := HR.out _ r1; obtain ⟨up, dn⟩ := HH.out _ r1))
          clear c9 d0 d3 d4 d5 up dn
          go_wp2
          go_roundw
          case rel => exact ⟨j + 1, by omega, by go_num, i1, r1⟩
          case measure => simp [intOf]; omega
        · have e : j = ne := by omega
          subst e
          have i2 := Hp9.out i hlt _ i1
          clear i1 up dn c9 d0 d3 d4 d5
          go_wp2
          go_roundw
          case rel => exact ⟨i + 1, by omega, by go_num, i2, r1⟩
          case measure => simp [intOf]; omega
    · have e : i = ln := by omega
      subst e
      have k0 := Ho1.out _ i1 r1
      clear i1 r1
      go_wp2
      go_region_held3 (fun W => W.cell? ⟨w.heap.size, 0, none⟩ = some (.int .i64 d)) (exact d0) (first
        | (go_at_call 33; refine k0.mono ?_; rintro e W1 ⟨rfl, i1, r1⟩; clear k0 c9 d0 d3 d4 d5; obtain ⟨c9, d0, d3, d4, d5, -, -⟩ := HR.out _ r1))
      have k0 := Ho2.out _ i1 r1
      clear i1 r1
      go_wp2
      go_region_held3 (fun W => W.cell? ⟨w.heap.size, 0, none⟩ = some (.int .i64 d) ∧ W.cell? ⟨w.heap.size, 3, none⟩ = some (.int .i64 v)) (exact ⟨d0, d3⟩) (first
        | (go_at_call 33; refine k0.mono ?_; rintro e W1 ⟨rfl, i1, r1⟩; clear k0 c9 d0 d3 d4 d5; obtain ⟨c9, d0, d3, d4, d5, -, -⟩ := HR.out _ r1))
      clear c9 d0 d3 d4 d5
      go_wp2
      go_end0
      exact ⟨rfl, i1, r1⟩

end Go.Proofs.Ytjbeloljbjfibaa
