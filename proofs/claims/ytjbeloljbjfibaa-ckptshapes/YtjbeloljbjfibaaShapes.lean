/- Shape where all is right: the model is laid in new memory. -/
import Derived.Test.YtjbeloljbjfibaaRows
import Derived.Test.YtjbeloljbjfibaaLayer8
import Derived.Test.YtjbeloljbjfibaaConf
import Derived.Test.YtjbeloljbjfibaaBlank
import Derived.Test.YtjbeloljbjfibaaCfgRef
import Derived.Test.YtjbeloljbjfibaaSize
import Derived.Test.YtjbeloljbjfibaaSizes
import Derived.Test.YtjbeloljbjfibaaSteps
import Derived.Test.YtjbeloljbjfibaaClo54
import Derived.Test.YtjbeloljbjfibaaFill
import Derived.Test.YtjbeloljbjfibaaMods
import Derived.Test.YtjbeloljbjfibaaV54
import Derived.Test.YtjbeloljbjfibaaFills
import Derived.Test.YtjbeloljbjfibaaShape
import Derived.WalkKit
import Derived.ProofKit
import Derived.OpenShut
import Derived.Below
import Derived.WalkLawsBesides
import Derived.Deep.QuietTactic
import Derived.BigQuiet
import Derived.Deep.RegionWith
import Derived.Deep.RegionHeld3
import Derived.Deep.OwnRows
namespace Go.Proofs.Ytjbeloljbjfibaa
open Go.ChangeShapes Go.WideShapes Go.ChangeAt Go.RowKit
set_option linter.unusedVariables false


/-- what lies in memory behind visit -/
theorem shape_after {h v u x t n : Int} {ln ne D mb vb rb b B0 nW xb : Nat} {cnt : Nat → Nat} {ws : List Int} {W4 W5 : World} (hne : 0 < ne)
    (qm : Blk 29 W4 mb #[.int .i64 (D : Int), .int .i64 h, .int .i64 (ln : Int), .int .i64 v, .int .i64 u, .int .i64 x, .int .i64 t, .int .i64 n, nilS, .slice (some ⟨b + 2, 0, none⟩) ln ln, nilS, nilS]) (qr : Blk 29 W4 rb #[.int .i64 0, .int .i64 0, .int .i64 0, .int .i64 0, .int .i64 0, .int .i64 0, .int .i64 0, .int .i64 0, nilS, nilS, nilS, nilS]) (hm : b + 3 + 4 * ln ≤ mb) (hv : vb < b) (hr : rb < b) (hrv : rb ≠ vb)
    (f : Filled (planA mb b ln ne) cnt (1 + ln * pl ne + 2) nW vb xb B0 (W4.heap.size + 1) ws (W4.alloc (.cells #[.int .i64 (D : Int), .int .i64 h, .int .i64 (ln : Int), .int .i64 v, .int .i64 u, .int .i64 x, .int .i64 t, .int .i64 n] 23)) (1 + ln * pl ne + 2) W5)
    (hh : Held mb W4.heap.size ln ln ne ⟨b + 2, 0, none⟩ (fun i => ⟨b + 4 + 4 * i, 0, none⟩) (fun i => ⟨b + 6 + 4 * i, 0, none⟩) (fun _ => ne) (fun _ => ne) (D : Int) v u x W5) :
    ∃ E N O : SL, (W5.cell? ⟨mb, 0, none⟩ = some (.int .i64 (D : Int)) ∧ W5.cell? ⟨mb, 1, none⟩ = some (.int .i64 h) ∧ W5.cell? ⟨mb, 2, none⟩ = some (.int .i64 (ln : Int)) ∧ W5.cell? ⟨mb, 3, none⟩ = some (.int .i64 v) ∧ W5.cell? ⟨mb, 4, none⟩ = some (.int .i64 u) ∧ W5.cell? ⟨mb, 5, none⟩ = some (.int .i64 x) ∧ W5.cell? ⟨mb, 6, none⟩ = some (.int .i64 t) ∧ W5.cell? ⟨mb, 7, none⟩ = some (.int .i64 n)) ∧ W5.cell? ⟨mb, 8, none⟩ = some (.slice E.a E.n E.c) ∧ W5.cell? ⟨mb, 9, none⟩ = some (.slice (some ⟨b + 2, 0, none⟩) ln ln) ∧ W5.cell? ⟨mb, 10, none⟩ = some (.slice N.a N.n N.c) ∧ W5.cell? ⟨mb, 11, none⟩ = some (.slice O.a O.n O.c) ∧
      Blk 29 W5 rb #[.int .i64 0, .int .i64 0, .int .i64 0, .int .i64 0, .int .i64 0, .int .i64 0, .int .i64 0, .int .i64 0, nilS, nilS, nilS, nilS] ∧ ∃ Y U D', ∀ W6, (∀ p y, W5.cell? p = some y → p.block ≠ rb → vb < p.block → W6.cell? p = some y) → ModAt W6 E ⟨some ⟨b + 2, 0, none⟩, ln, ln⟩ N O Y U D' (ofSeq ln ne (seg cnt ws)) := by
  have bw := below_new (Below.refl W4.heap.size W4) (.cells #[.int .i64 (D : Int), .int .i64 h, .int .i64 (ln : Int), .int .i64 v, .int .i64 u, .int .i64 x, .int .i64 t, .int .i64 n] 23)
  have qm0 := qm.kept bw
  have qr0 := qr.kept bw
  obtain ⟨G, hG⟩ := f.seq
  have noP : ∀ o, o ≠ 8 → o ≠ 10 → o ≠ 11 → ∀ j, j < 1 + ln * pl ne + 2 → (⟨mb, o, none⟩ : Addr) ≠ planA mb b ln ne j := fun o h1 h2 h3 j hj e => by
    have e1 : mb = (planA mb b ln ne j).block := by rw [← e]
    have e2 : o = (planA mb b ln ne j).off := by rw [← e]
    rcases planA_block mb b ln ne j hj with ⟨g, g'⟩ | ⟨g, _⟩ | ⟨i, hi, g | g⟩ <;> omega
  have kc : ∀ o y, o ≠ 8 → o ≠ 10 → o ≠ 11 → (W4.alloc (.cells #[.int .i64 (D : Int), .int .i64 h, .int .i64 (ln : Int), .int .i64 v, .int .i64 u, .int .i64 x, .int .i64 t, .int .i64 n] 23)).cell? ⟨mb, o, none⟩ = some y → W5.cell? ⟨mb, o, none⟩ = some y := fun o y h1 h2 h3 hy => f.keep _ _ hy (noP o h1 h2 h3) (by show mb ≠ vb; omega)
  have c8 := (hG 0 (by omega)).1
  rw [planA_zero] at c8
  have c10 := (hG (1 + ln * pl ne) (by omega)).1
  rw [planA_norm] at c10
  have c11 := (hG (1 + ln * pl ne + 1) (by omega)).1
  rw [planA_out] at c11
  have rbn : ∀ j, j < 1 + ln * pl ne + 2 → rb ≠ (planA mb b ln ne j).block := fun j hj e => by
    rcases planA_block mb b ln ne j hj with ⟨g, g'⟩ | ⟨g, _⟩ | ⟨i, hi, g | g⟩ <;> omega
  have hrl : rb < W4.heap.size := qr.lt
  refine ⟨G 0, G (1 + ln * pl ne), G (1 + ln * pl ne + 1), ⟨kc 0 _ (by omega) (by omega) (by omega) (qm0.cell 0 rfl), kc 1 _ (by omega) (by omega) (by omega) (qm0.cell 1 rfl), kc 2 _ (by omega) (by omega) (by omega) (qm0.cell 2 rfl), kc 3 _ (by omega) (by omega) (by omega) (qm0.cell 3 rfl), kc 4 _ (by omega) (by omega) (by omega) (qm0.cell 4 rfl), kc 5 _ (by omega) (by omega) (by omega) (qm0.cell 5 rfl), kc 6 _ (by omega) (by omega) (by omega) (qm0.cell 6 rfl), kc 7 _ (by omega) (by omega) (by omega) (qm0.cell 7 rfl)⟩,
    c8, hh.c9, c10, c11, (f.block rb (by omega) hrv rbn).trans qr0, _, _, _, fun W6 o => modAt_of (mb := mb) (G := G) (fun k hk => ?_) hne (fun i hi => ?_) (fun i hi => ?_)⟩
  · obtain ⟨g1, g2, g3, g4⟩ := hG k hk
    have lb : vb < (planA mb b ln ne k).block := by rcases planA_block mb b ln ne k hk with ⟨g, g'⟩ | ⟨g, _⟩ | ⟨i, hi, g | g⟩ <;> omega
    refine ⟨o _ _ g1 (fun e => rbn k hk e.symm) lb, ⟨⟨g3.reads.len, g3.reads.max, g3.reads.wf, g3.reads.some_, fun y hy i hi => ?_⟩, g3.nil, g3.cap⟩⟩
    have l4 := g4 y hy
    have bl : (y.add i).block = y.block := by unfold Addr.add; split <;> rfl
    exact o _ _ (g3.reads.cell y hy i hi) (by omega) (by have := qm.lt; omega)
  · exact o _ _ (hh.up i hi) (by rw [at_add]; show b + 2 ≠ rb; omega) (by rw [at_add]; show vb < b + 2; omega)
  · exact o _ _ (hh.dn i hi) (by rw [at_add]; show b + 2 ≠ rb; omega) (by rw [at_add]; show vb < b + 2; omega)

set_option maxHeartbeats 2000000 in
theorem shape_yes (h v u x t n : Int) (ln ne D DD XD UD VD nW cW : Nat) (xa : Addr) (ws : List Int) (e1 : v * (D : Int) = (VD : Int)) (e2 : (D : Int) * (D : Int) = (DD : Int)) (e3 : x * (D : Int) = (XD : Int)) (e4 : u * (D : Int) = (UD : Int))
    (b0 : D ≤ 1000) (b1 : VD ≤ 1000) (b2 : DD ≤ 1000) (b3 : XD ≤ 1000) (b4 : UD ≤ 1000) (l1 : ln ≤ 4) (l2 : ne ≤ 4) (hne : 0 < ne) (hx : max x 1 = (ne : Int)) (w : World)
    (hk : ∀ w, Calls Try.prog 9 #[.agg #[.int .i64 (D : Int), .int .i64 h, .int .i64 (ln : Int), .int .i64 v, .int .i64 u, .int .i64 x, .int .i64 t, .int .i64 n]] w fun e w' => e = .returned (.bool true) ∧ Below w.heap.size w w')
    (k11 : ∀ w, Calls Try.prog 11 #[.agg #[.int .i64 (D : Int), .int .i64 h, .int .i64 (ln : Int), .int .i64 v, .int .i64 u, .int .i64 x, .int .i64 t, .int .i64 n]] w fun e w' => e = .returned (.int .i64 (nW : Int)) ∧ Below w.heap.size w w')
    (rd : Reads .i8 w (some xa) nW ws) (hc : nW ≤ cW) (hn : nW ≤ 100000) (hfit : offs (planC ln ne D DD XD UD VD) (1 + ln * pl ne + 2) ≤ nW) (hxa : xa.block < w.heap.size) :
    Calls Try.prog 24 #[.agg #[.int .i64 (D : Int), .int .i64 h, .int .i64 (ln : Int), .int .i64 v, .int .i64 u, .int .i64 x, .int .i64 t, .int .i64 n], .slice (some xa) nW cW] w fun e w' => ∃ E L N O : SL, ∃ Y U D', e = .returned (.tuple #[.agg #[.int .i64 (D : Int), .int .i64 h, .int .i64 (ln : Int), .int .i64 v, .int .i64 u, .int .i64 x, .int .i64 t, .int .i64 n, .slice E.a E.n E.c, .slice L.a L.n L.c, .slice N.a N.n N.c, .slice O.a O.n O.c], .int .i64 0]) ∧
      NewM w.heap.size w' E L N O Y U D' (ofSeq ln ne (seg (planC ln ne D DD XD UD VD) ws)) ∧ Below w.heap.size w w' := by
  obtain ⟨sa, esa⟩ : ∃ sa, some xa = sa := ⟨_, rfl⟩
  have HS := hidden_ esa
  rw [esa]
  clear esa
  have hb := below_new (below_new (below_new (Below.refl w.heap.size w) (.cells #[.int .i64 (D : Int), .int .i64 h, .int .i64 (ln : Int), .int .i64 v, .int .i64 u, .int .i64 x, .int .i64 t, .int .i64 n] 23)) (.cells #[.slice sa nW cW] 26)) (.cells #[.int .i64 0, .int .i64 0, .int .i64 0, .int .i64 0, .int .i64 0, .int .i64 0, .int .i64 0, .int .i64 0, nilS, nilS, nilS, nilS] 29)
  have q0 := ((Blk.new 23 w #[.int .i64 (D : Int), .int .i64 h, .int .i64 (ln : Int), .int .i64 v, .int .i64 u, .int .i64 x, .int .i64 t, .int .i64 n]).kept (below_new (below_new (Below.refl _ _) (.cells #[.slice sa nW cW] 26)) (.cells #[.int .i64 0, .int .i64 0, .int .i64 0, .int .i64 0, .int .i64 0, .int .i64 0, .int .i64 0, .int .i64 0, nilS, nilS, nilS, nilS] 29)))
  have qw := (Blk.new 26 (w.alloc (.cells #[.int .i64 (D : Int), .int .i64 h, .int .i64 (ln : Int), .int .i64 v, .int .i64 u, .int .i64 x, .int .i64 t, .int .i64 n] 23)) #[.slice sa nW cW]).kept (below_new (Below.refl _ _) (.cells #[.int .i64 0, .int .i64 0, .int .i64 0, .int .i64 0, .int .i64 0, .int .i64 0, .int .i64 0, .int .i64 0, nilS, nilS, nilS, nilS] 29))
  have q2 := Blk.new 29 ((w.alloc (.cells #[.int .i64 (D : Int), .int .i64 h, .int .i64 (ln : Int), .int .i64 v, .int .i64 u, .int .i64 x, .int .i64 t, .int .i64 n] 23)).alloc (.cells #[.slice sa nW cW] 26)) #[.int .i64 0, .int .i64 0, .int .i64 0, .int .i64 0, .int .i64 0, .int .i64 0, .int .i64 0, .int .i64 0, nilS, nilS, nilS, nilS]
  have s1 : (w.alloc (.cells #[.int .i64 (D : Int), .int .i64 h, .int .i64 (ln : Int), .int .i64 v, .int .i64 u, .int .i64 x, .int .i64 t, .int .i64 n] 23)).heap.size = w.heap.size + 1 := by simp
  have s2 : ((w.alloc (.cells #[.int .i64 (D : Int), .int .i64 h, .int .i64 (ln : Int), .int .i64 v, .int .i64 u, .int .i64 x, .int .i64 t, .int .i64 n] 23)).alloc (.cells #[.slice sa nW cW] 26)).heap.size = w.heap.size + 1 + 1 := by simp
  have s3 : (((w.alloc (.cells #[.int .i64 (D : Int), .int .i64 h, .int .i64 (ln : Int), .int .i64 v, .int .i64 u, .int .i64 x, .int .i64 t, .int .i64 n] 23)).alloc (.cells #[.slice sa nW cW] 26)).alloc (.cells #[.int .i64 0, .int .i64 0, .int .i64 0, .int .i64 0, .int .i64 0, .int .i64 0, .int .i64 0, .int .i64 0, nilS, nilS, nilS, nilS] 29)).heap.size = w.heap.size + 3 := by simp
  rw [s1] at qw
  rw [s2] at q2
  obtain ⟨X0, eX⟩ : ∃ X0, ((w.alloc (.cells #[.int .i64 (D : Int), .int .i64 h, .int .i64 (ln : Int), .int .i64 v, .int .i64 u, .int .i64 x, .int .i64 t, .int .i64 n] 23)).alloc (.cells #[.slice sa nW cW] 26)).alloc (.cells #[.int .i64 0, .int .i64 0, .int .i64 0, .int .i64 0, .int .i64 0, .int .i64 0, .int .i64 0, .int .i64 0, nilS, nilS, nilS, nilS] 29) = X0 := ⟨_, rfl⟩
  rw [eX] at hb q0 qw q2 s3
  clear s1 s2
  have HX := hidden_ eX
  clear eX
  have k31 := fun W => blank_call (D : Int) h v u x t n ln ne (by omega) (by omega) hx W
  have k32 : ∀ W2 W3 : World, w.heap.size + 3 ≤ W2.heap.size → Below w.heap.size w W2 → Blk 26 W2 (w.heap.size + 1) #[.slice sa nW cW] → Blk 29 W2 (w.heap.size + 1 + 1) #[.int .i64 0, .int .i64 0, .int .i64 0, .int .i64 0, .int .i64 0, .int .i64 0, .int .i64 0, .int .i64 0, nilS, nilS, nilS, nilS] → Below W2.heap.size W2 W3 → Frames W2.heap.size ln ne ln W3 →
      Calls Try.prog 32 #[.pointer (some ⟨W3.heap.size, 0, none⟩), .func (.func 54) #[] #[.pointer (some ⟨w.heap.size + 1, 0, none⟩)]] (W3.alloc (.cells #[.int .i64 (D : Int), .int .i64 h, .int .i64 (ln : Int), .int .i64 v, .int .i64 u, .int .i64 x, .int .i64 t, .int .i64 n, nilS, .slice (some ⟨W2.heap.size + 2, 0, none⟩) ln ln, nilS, nilS] 29)) fun e W5 => e = .returned (.tuple #[]) ∧ ∃ E N O : SL,
        (W5.cell? ⟨W3.heap.size, 0, none⟩ = some (.int .i64 (D : Int)) ∧ W5.cell? ⟨W3.heap.size, 1, none⟩ = some (.int .i64 h) ∧ W5.cell? ⟨W3.heap.size, 2, none⟩ = some (.int .i64 (ln : Int)) ∧ W5.cell? ⟨W3.heap.size, 3, none⟩ = some (.int .i64 v) ∧ W5.cell? ⟨W3.heap.size, 4, none⟩ = some (.int .i64 u) ∧ W5.cell? ⟨W3.heap.size, 5, none⟩ = some (.int .i64 x) ∧ W5.cell? ⟨W3.heap.size, 6, none⟩ = some (.int .i64 t) ∧ W5.cell? ⟨W3.heap.size, 7, none⟩ = some (.int .i64 n)) ∧ W5.cell? ⟨W3.heap.size, 8, none⟩ = some (.slice E.a E.n E.c) ∧ W5.cell? ⟨W3.heap.size, 9, none⟩ = some (.slice (some ⟨W2.heap.size + 2, 0, none⟩) ln ln) ∧ W5.cell? ⟨W3.heap.size, 10, none⟩ = some (.slice N.a N.n N.c) ∧ W5.cell? ⟨W3.heap.size, 11, none⟩ = some (.slice O.a O.n O.c) ∧
        Blk 29 W5 (w.heap.size + 1 + 1) #[.int .i64 0, .int .i64 0, .int .i64 0, .int .i64 0, .int .i64 0, .int .i64 0, .int .i64 0, .int .i64 0, nilS, nilS, nilS, nilS] ∧ Below w.heap.size w W5 ∧ ∃ Y U D', ∀ W6, (∀ p y, W5.cell? p = some y → p.block ≠ w.heap.size + 1 + 1 → w.heap.size + 1 < p.block → W6.cell? p = some y) → ModAt W6 E ⟨some ⟨W2.heap.size + 2, 0, none⟩, ln, ln⟩ N O Y U D' (ofSeq ln ne (seg (planC ln ne D DD XD UD VD) ws)) := fun W2 W3 hs hbw qv qr h3 fr => by
    have z3 := fr.size
    have b34 := below_new h3 (.cells #[.int .i64 (D : Int), .int .i64 h, .int .i64 (ln : Int), .int .i64 v, .int .i64 u, .int .i64 x, .int .i64 t, .int .i64 n, nilS, .slice (some ⟨W2.heap.size + 2, 0, none⟩) ln ln, nilS, nilS] 29)
    have bw4 := below_then hbw b34
    rw [← HS.out] at qv
    refine (shape_visit h v u x t n ln ne D DD XD UD VD W3.heap.size (w.heap.size + 1) W2.heap.size w.heap.size nW cW xa ws e1 e2 e3 e4 b0 b1 b2 b3 b4 l1 l2 _ (fr.row.alloc _) (fun i hi => (fr.up i hi).alloc _) (fun i hi => (fr.dn i hi).alloc _)
      (Blk.new 29 W3 _) (qv.kept b34) (rd.below bw4) hc hn hfit (by omega) (by omega) (by omega) hxa).mono ?_
    rintro e W5 ⟨he, f, hh⟩
    obtain ⟨E, N, O, a1, a2, a3, a4, a5, a6, a7⟩ := shape_after (rb := w.heap.size + 1 + 1) hne (Blk.new 29 W3 _) (qr.kept b34) (by omega) (by omega) (by omega) (by omega) f hh
    exact ⟨he, E, N, O, a1, a2, a3, a4, a5, a6, (below_new bw4 _).trans f.below, a7⟩
  go_enter Try.func24, Try.ntmps24
  go_wp2_with (first | (go_at_call 9; rw [HX.out]; refine (hk _).mono ?_; rintro e W1 ⟨rfl, h1⟩; replace q0 := q0.kept h1; replace qw := qw.kept h1; replace q2 := q2.kept h1; replace hb := below_then hb h1; have s4 := h1.size; obtain ⟨c0, c1, c2, c3, c4, c5, c6, c7⟩ := q0.cfg; have cw : W1.cell? ⟨w.heap.size + 1, 0, none⟩ = some (.slice sa nW cW) := qw.cell 0 rfl; clear h1))
  replace q0 : Blk 23 W1.drew w.heap.size _ := q0
  replace qw : Blk 26 W1.drew (w.heap.size + 1) _ := qw
  replace q2 : Blk 29 W1.drew (w.heap.size + 1 + 1) _ := q2
  replace hb : Below w.heap.size w W1.drew := below_drew hb ⟨1, rfl⟩
  go_region_held3 (fun W => W.cell? ⟨w.heap.size + 1, 0, none⟩ = some (.slice sa nW cW) ∧ W.cell? ⟨w.heap.size, 0, none⟩ = some (.int .i64 (D : Int)) ∧ W.cell? ⟨w.heap.size, 1, none⟩ = some (.int .i64 h) ∧ W.cell? ⟨w.heap.size, 2, none⟩ = some (.int .i64 (ln : Int)) ∧ W.cell? ⟨w.heap.size, 3, none⟩ = some (.int .i64 v) ∧ W.cell? ⟨w.heap.size, 4, none⟩ = some (.int .i64 u) ∧ W.cell? ⟨w.heap.size, 5, none⟩ = some (.int .i64 x) ∧ W.cell? ⟨w.heap.size, 6, none⟩ = some (.int .i64 t) ∧ W.cell? ⟨w.heap.size, 7, none⟩ = some (.int .i64 n)) (exact ⟨cw, c0, c1, c2, c3, c4, c5, c6, c7⟩) (first
    | (go_at_call 11; refine (k11 _).mono ?_; rintro e W2 ⟨rfl, h2⟩; have s5 : W1.heap.size ≤ W2.heap.size := h2.size; replace q0 := q0.kept h2; replace qw := qw.kept h2; replace q2 := q2.kept h2; replace hb := below_then hb h2; clear h2 c0 c1 c2 c3 c4 c5 c6 c7 cw; obtain ⟨c0, c1, c2, c3, c4, c5, c6, c7⟩ := q0.cfg; have cw : W2.cell? ⟨w.heap.size + 1, 0, none⟩ = some (.slice sa nW cW) := qw.cell 0 rfl))
  all_goals
    go_wp2_with (first
      | (go_at_call 31; refine (k31 _).mono ?_; rintro e W3 ⟨rfl, h3, fr⟩; clear c0 c1 c2 c3 c4 c5 c6 c7)
      | (go_at_call 32; refine (k32 W2 W3 (by omega) hb qw q2 h3 fr).mono ?_; rintro e W5 ⟨rfl, E, N, O, ⟨a0, a1, a2, a3, a4, a5, a6, a7⟩, a8, a9, a10, a11, q5, hb5, fin⟩; obtain ⟨z0, z1, z2, z3, z4, z5, z6, z7, z8, z9, z10, z11⟩ := q5.c12; obtain ⟨o0, o1, o2, o3, o4, o5, o6, o7, o8, o9, o10, o11⟩ := q5.o12))
    obtain ⟨W6, eW, q6, only, hz⟩ := set12 q5 (.int .i64 (D : Int)) (.int .i64 h) (.int .i64 (ln : Int)) (.int .i64 v) (.int .i64 u) (.int .i64 x) (.int .i64 t) (.int .i64 n) (.slice E.a E.n E.c) (.slice (some ⟨W2.heap.size + 2, 0, none⟩) ln ln) (.slice N.a N.n N.c) (.slice O.a O.n O.c)
    rw [eW]
    obtain ⟨Y, U, D', fin⟩ := fin
    have hM : NewM w.heap.size W6 E ⟨some ⟨W2.heap.size + 2, 0, none⟩, ln, ln⟩ N O Y U D' (ofSeq ln ne (seg (planC ln ne D DD XD UD VD) ws)) := fun w' hc => fin w' fun p y hp h1 h2 => hc p y (only.cell hp (fun e => h1 (by simpa using e))) (by omega)
    refine bodyPost_ret (v := .tuple #[.agg #[.int .i64 (D : Int), .int .i64 h, .int .i64 (ln : Int), .int .i64 v, .int .i64 u, .int .i64 x, .int .i64 t, .int .i64 n, .slice E.a E.n E.c, .slice (some ⟨W2.heap.size + 2, 0, none⟩) ln ln, .slice N.a N.n N.c, .slice O.a O.n O.c], .int .i64 0]) ?_ rfl ⟨E, ⟨some ⟨W2.heap.size + 2, 0, none⟩, ln, ln⟩, N, O, Y, U, D', rfl, hM, Only.below hb5 (by omega) hb5.size only⟩
    obtain ⟨y0, y1, y2, y3, y4, y5, y6, y7, y8, y9, y10, y11⟩ := q6.c12
    simp [results, Try.results24, go_sem, y0, y1, y2, y3, y4, y5, y6, y7, y8, y9, y10, y11]

end Go.Proofs.Ytjbeloljbjfibaa
