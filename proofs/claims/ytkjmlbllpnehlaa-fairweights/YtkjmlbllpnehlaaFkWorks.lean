/- The chapter's example. -/
import Derived.Test.YtkjmlbllpnehlaaRows
import Derived.Test.YtkjmlbllpnehlaaView
import Derived.Test.YtkjmlbllpnehlaaOwn
import Derived.Test.YtkjmlbllpnehlaaBase
import Derived.Test.YtkjmlbllpnehlaaFkZ
import Derived.Test.YtkjmlbllpnehlaaFkBy
import Derived.Test.YtkjmlbllpnehlaaFkAt
import Derived.Test.YtkjmlbllpnehlaaFkRd
import Derived.Test.YtkjmlbllpnehlaaFkFd
import Derived.Test.YtkjmlbllpnehlaaFkSo
import Derived.Test.YtkjmlbllpnehlaaFkDel
import Derived.Test.YtkjmlbllpnehlaaFkCan
import Derived.Test.YtkjmlbllpnehlaaFkNext
import Derived.Test.YtkjmlbllpnehlaaFkAdd
import Derived.Test.YtkjmlbllpnehlaaFkNew
import Derived.WalkKit
import Derived.ProofKit
import Derived.OpenShut
import Derived.Below
import Derived.WalkLawsBesides
import Derived.Deep.QuietTactic
import Derived.BigQuiet
import Derived.OwnWalk
namespace Go.Proofs.Ytkjmlbllpnehlaa
set_option maxRecDepth 20000
open Go.ChangeShapes Go.WideShapes Go.ChangeAt Go.RowKit
set_option linter.unusedVariables false
set_option linter.unusedSimpArgs false

def wA : Nat → Fr
  | 0 => newF [1, 2]
  | k + 1 => addS (wA k) ((k % 2 : Nat) : Int) (k : Int) 10
def wN : Nat → Fr
  | 0 => wA 6
  | k + 1 => nextS (wN k)
def wid (k : Nat) : Int := [0, 1, 3, 2, 5, 4].getD k 0
def wwant (k : Nat) : Int := [0, 1, 1, 0, 1, 0].getD k 0
theorem wA_e : ∀ k, k < 6 → addE (wA k) ((k % 2 : Nat) : Int) (k : Int) 10 = 0 := by decide +kernel
theorem wN_e : ∀ k, k < 6 → (nextO (wN k)).map (fun x => (x.id, x.co)) = some (wid k, 10) := by decide +kernel
theorem wN_6 : (nextO (wN 6)).isNone = true ∧ addE (wN 6) 2 9 1 = 20 ∧ waitZ (wN 6) 0 = 0 := by decide +kernel
theorem wid_want : ∀ k, k < 6 → (wid k).tmod 2 = wwant k ∧ wid k % 2 = wwant k ∧ 0 ≤ wid k ∧ wid k ≤ 5 ∧ 0 ≤ wwant k ∧ wwant k ≤ 1 := by decide +kernel
theorem wA_ok : ∀ k, k ≤ 6 → FrOk 0 (wA k)
  | 0, _ => newF_ok (by decide)
  | k + 1, h => (wA_ok k (by omega)).addS (wf_i64 (by omega) (by omega))
theorem wN_ok : ∀ k, FrOk k (wN k)
  | 0 => wA_ok 6 (by omega)
  | k + 1 => (wN_ok k).nextS
theorem nextV_some {o : Option It} {a b : Int} (h : o.map (fun x => (x.id, x.co)) = some (a, b)) : nextV o = .tuple #[.int .i64 a, .int .i64 b, .bool true] := by
  cases o with
  | none => cases h
  | some x =>
    simp only [Option.map_some, Option.some.injEq, Prod.mk.injEq] at h
    simp only [nextV, h.1, h.2]
theorem nextV_none {o : Option It} (h : o.isNone = true) : nextV o = .tuple #[.int .i64 0, .int .i64 0, .bool false] := by
  cases o with
  | none => rfl
  | some x => cases h

/-- somewhere there are tenants in that state, and what lay there ahead is as it was -/
structure FrIn (B : Nat) (w0 w : World) (f : Nat) (s : Fr) : Prop where
  at_ : ∃ g A, FrAt B w f g A s
  below : Below B w0 w
theorem FrIn.step {B : Nat} {w0 w w' : World} {f : Nat} {s s' : Fr} (h : FrIn B w0 w f s) (hg : ∀ g A, FrAt B w f g A s → ∃ A', FrAt B w' f g A' s') (ho : Off B TF w w') : FrIn B w0 w' f s' := by
  obtain ⟨g, A, hF⟩ := h.at_
  obtain ⟨A', h2⟩ := hg g A hF
  exact ⟨⟨g, A', h2⟩, h.below.trans (ho.below hF.lt.2.2)⟩
theorem FrIn.more {B : Nat} {w0 w w' : World} {f : Nat} {s : Fr} (h : FrIn B w0 w f s) (hb : Below w.heap.size w w') : FrIn B w0 w' f s := by
  obtain ⟨g, A, hF⟩ := h.at_
  exact ⟨⟨g, A, hF.below hb⟩, h.below.trans (hb.mono hF.lt.2.2)⟩
theorem FrIn.add {B : Nat} {w0 w : World} {f : Nat} {s : Fr} {k : Nat} (h : FrIn B w0 w f s) (hk : FrOk k s) (hk1 : k ≤ 1000000) (z id co : Int) : Calls Try.prog 9 #[.pointer (some ⟨f, 0, none⟩), .int .i64 z, .int .i64 id, .int .i64 co] w fun e w' => e = .returned (.int .i64 (addE s z id co)) ∧ FrIn B w0 w' f (addS s z id co) ∧ Off B TF w w' := by
  obtain ⟨g, A, hF⟩ := h.at_
  refine (add_call hF hk hk1 z id co).mono ?_
  rintro e w' ⟨h1, ⟨A', h2⟩, h3⟩
  exact ⟨h1, ⟨⟨g, A', h2⟩, h.below.trans (h3.below hF.lt.2.2)⟩, h3⟩
theorem FrIn.next {B : Nat} {w0 w : World} {f : Nat} {s : Fr} {k : Nat} (h : FrIn B w0 w f s) (hk : FrOk k s) (hk1 : k ≤ 1000000) : Calls Try.prog 11 #[.pointer (some ⟨f, 0, none⟩)] w fun e w' => e = .returned (nextV (nextO s)) ∧ FrIn B w0 w' f (nextS s) ∧ Off B TF w w' := by
  obtain ⟨g, A, hF⟩ := h.at_
  refine (next_call hF hk hk1).mono ?_
  rintro e w' ⟨h1, ⟨A', h2⟩, h3⟩
  exact ⟨h1, ⟨⟨g, A', h2⟩, h.below.trans (h3.below hF.lt.2.2)⟩, h3⟩
theorem FrIn.cancel {B : Nat} {w0 w : World} {f : Nat} {s : Fr} {k : Nat} (h : FrIn B w0 w f s) (hk : FrOk k s) (id : Int) : Calls Try.prog 13 #[.pointer (some ⟨f, 0, none⟩), .int .i64 id] w fun e w' => e = .returned (.bool (hasB s.L id)) ∧ FrIn B w0 w' f (canS s id) ∧ Off B TF w w' := by
  obtain ⟨g, A, hF⟩ := h.at_
  refine (cancel_call hF hk id).mono ?_
  rintro e w' ⟨h1, ⟨A', h2⟩, h3⟩
  exact ⟨h1, ⟨⟨g, A', h2⟩, h.below.trans (h3.below hF.lt.2.2)⟩, h3⟩
theorem FrIn.waiting {B : Nat} {w0 w : World} {f : Nat} {s : Fr} (h : FrIn B w0 w f s) (hn : s.n ≤ 4) (z : Int) : Calls Try.prog 15 #[.pointer (some ⟨f, 0, none⟩), .int .i64 z] w fun e w' => e = .returned (.int .i64 (waitZ s z : Int)) ∧ w' = w := by
  obtain ⟨g, A, hF⟩ := h.at_
  exact waiting_call hF hn z
theorem FrIn.clock {B : Nat} {w0 w : World} {f : Nat} {s : Fr} (h : FrIn B w0 w f s) (hn : s.n ≤ 4) (z : Int) : Calls Try.prog 17 #[.pointer (some ⟨f, 0, none⟩), .int .i64 z] w fun e w' => e = .returned (.int .i64 (clockZ s z)) ∧ w' = w := by
  obtain ⟨g, A, hF⟩ := h.at_
  exact clock_call hF hn z
theorem lit2_reads (w : World) (x y : Int) (hx : (Lit.int .i64 x).wf = true) (hy : (Lit.int .i64 y).wf = true) : Reads .i64 (w.alloc (.cells #[.int .i64 x, .int .i64 y] 3)) (some ⟨w.heap.size, 0, none⟩) 2 [x, y] := by
  refine Reads.of_row rfl (by omega) (fun z hz => ?_) (fun i hi => ?_)
  · simp only [List.mem_cons, List.not_mem_nil, or_false] at hz
    rcases hz with rfl | rfl <;> assumption
  · rcases (show i = 0 ∨ i = 1 by omega) with rfl | rfl <;> (rw [add_zero_at]; unfold World.cell?; rw [heap_alloc_new]; rfl)
theorem lit_row (w : World) (zs : List Int) (hz : zs.length ≤ 9223372036854775807) (hw : ∀ z ∈ zs, (Lit.int .i64 z).wf = true) : RowI w.heap.size (w.alloc (.cells (zs.map (Value.int .i64)).toArray 3)) (some ⟨w.heap.size, 0, none⟩) zs.length zs.length zs :=
  ⟨rfl, World.ownsRow_lit (base := w.heap.size) (size := 1) w (zs.map (Value.int .i64)).toArray zs.length (Nat.le_refl _) (by unfold maxLen; exact hz) (by simp), hw⟩
theorem lit6_row (w : World) : RowI w.heap.size (w.alloc (.cells #[.int .i64 0, .int .i64 1, .int .i64 1, .int .i64 0, .int .i64 1, .int .i64 0] 3)) (some ⟨w.heap.size, 0, none⟩) 6 6 [0, 1, 1, 0, 1, 0] := lit_row w [0, 1, 1, 0, 1, 0] (by decide) (by decide)

set_option maxHeartbeats 1000000 in
theorem works_call (w : World) : Calls Try.prog 19 #[] w fun e w' => e = .returned (.bool true) ∧ Below w.heap.size w w' := by
  have b0 := below_new (Below.refl w.heap.size w) (.cells #[.int .i64 1, .int .i64 2] 3)
  have kn := new_yes (lit2_reads w 1 2 (by decide) (by decide)) (c := 2) (by decide)
  have HB := hidden_ b0
  clear b0
  go_enter Try.func19, Try.ntmps19
  go_wp2_with (go_at_call 7; refine kn.mono ?_; rintro e W1 ⟨f, rfl, h1, h2⟩; have hF0 : Hid (FrIn w.heap.size w W1 f (wA 0)) := ⟨h1 _ HB.out.size, HB.out.trans (h2.mono HB.out.size)⟩; clear h1 h2 kn)
  clear HB
  go_loopw [3] (fun i wr => ∃ k : Nat, k ≤ 6 ∧ i = .int .i64 k ∧ Hid (FrIn w.heap.size w wr f (wA k))) (fun i _ => 6 - (intOf i).toNat)
  case atStart => exact ⟨0, Nat.zero_le _, rfl, hF0⟩
  case round =>
    clear hF0
    obtain ⟨k, hk, rfl, hF⟩ := hrel
    by_cases hlt : k < 6
    · have hlt' : (k : Int) < 6 := by omega
      have ka := hF.out.add (wA_ok k hk) (by omega) ((k % 2 : Nat) : Int) (k : Int) 10
      rw [wA_e k hlt] at ka
      have hS : ∀ W, FrIn w.heap.size w W f (addS (wA k) ((k % 2 : Nat) : Int) (k : Int) 10) → Hid (FrIn w.heap.size w W f (wA (k + 1))) := fun W h => h
      have HS := hidden_ hS
      obtain ⟨r, er⟩ : ∃ r : Nat, k % 2 = r := ⟨_, rfl⟩
      have e2 : (k : Int) % 2 = (r : Int) := by omega
      have e1 : (k : Int).tmod 2 = (r : Int) := by rw [Int.tmod_eq_emod_of_nonneg (by omega)]; exact e2
      have hr : (r : Int) ≤ 1 := by omega
      have hr0 : 0 ≤ (r : Int) := by omega
      have e3 : IntKind.i64.wrap (r : Int) = (r : Int) := by rcases (show r = 0 ∨ r = 1 by omega) with rfl | rfl <;> rfl
      rw [er] at ka HS
      clear hF er hS
      go_wp2_with (go_at_call 9; refine ka.mono ?_; rintro e W2 ⟨rfl, h1, -⟩; have hq := HS.out W2 h1; clear h1 ka)
      go_roundw
      case rel => exact ⟨k + 1, by omega, by go_num, hq⟩
      case measure => simp [intOf]; omega
    · have e : k = 6 := by omega
      rw [e] at hF
      have hlt' : ¬ (k : Int) < 6 := by omega
      have hk0 : (0 : Int) ≤ (k : Int) := by omega
      clear e hk hlt
      have hL := hidden_ (lit6_row wr)
      have hb := below_new (Below.refl wr.heap.size wr) (.cells #[.int .i64 0, .int .i64 1, .int .i64 1, .int .i64 0, .int .i64 1, .int .i64 0] 3)
      have hF1 : Hid (FrIn w.heap.size w (wr.alloc (.cells #[.int .i64 0, .int .i64 1, .int .i64 1, .int .i64 0, .int .i64 1, .int .i64 0] 3)) f (wN 0)) := hF.out.more hb
      clear hF hb
      go_wp2
      obtain ⟨W0, e0⟩ : ∃ W0, wr.alloc (.cells #[.int .i64 0, .int .i64 1, .int .i64 1, .int .i64 0, .int .i64 1, .int .i64 0] 3) = W0 := ⟨_, rfl⟩
      rw [e0] at hL hF1 ⊢
      clear e0
      obtain ⟨X, eX⟩ : ∃ X : Addr, X = ⟨wr.heap.size, 0, none⟩ := ⟨_, rfl⟩
      obtain ⟨H, eH⟩ : ∃ H, wr.heap.size = H := ⟨_, rfl⟩
      rw [← eX, eH] at hL
      rw [← eX]
      clear eX eH
      rename World => W00
      go_loopw [5] (fun i wr => ∃ k : Nat, k ≤ 6 ∧ i = .int .i64 k ∧ Hid (FrIn w.heap.size w wr f (wN k) ∧ RowI H wr (some X) 6 6 [0, 1, 1, 0, 1, 0])) (fun i _ => 6 - (intOf i).toNat)
      case atStart => exact ⟨0, Nat.zero_le _, rfl, hF1.out, hL.out⟩
      case round =>
        clear hF1 hL
        obtain ⟨k, hk, rfl, hF⟩ := hrel
        by_cases hlt : k < 6
        · have hlt' : (k : Int) < 6 := by omega
          have ka := hF.out.1.next (wN_ok k) (by omega)
          rw [nextV_some (wN_e k hlt)] at ka
          have hS : ∀ W, FrIn w.heap.size w W f (nextS (wN k)) → FrIn w.heap.size w W f (wN (k + 1)) := fun W h => h
          have HS := hidden_ hS
          obtain ⟨y1, y2, y3, y4, y5, y6⟩ := wid_want k hlt
          obtain ⟨y, ey⟩ : ∃ y, wid k = y := ⟨_, rfl⟩
          obtain ⟨v, ev⟩ : ∃ v, wwant k = v := ⟨_, rfl⟩
          rw [ey] at ka y1 y2 y3 y4
          rw [ev] at y1 y2 y5 y6
          have e3 : IntKind.i64.wrap v = v := by rcases (show v = 0 ∨ v = 1 by omega) with rfl | rfl <;> rfl
          have EV := hidden_ (show ([0, 1, 1, 0, 1, 0] : List Int).getD k 0 = v from ev)
          clear hS ey ev
          go_wp2_with (go_at_call 11; refine ka.mono ?_; rintro e W2 ⟨rfl, h1, h2⟩; have hR := hF.out.2.off h2 rfl; have cx := hR.reads.cell X rfl k hlt; rw [EV.out] at cx; have hq : Hid (FrIn w.heap.size w W2 f (wN (k + 1)) ∧ RowI H W2 (some X) 6 6 [0, 1, 1, 0, 1, 0]) := ⟨HS.out W2 h1, hR⟩; clear h1 h2 ka hR hF)
          go_roundw
          case rel => exact ⟨k + 1, by omega, by go_num, hq⟩
          case measure => simp [intOf]; omega
        · have e : k = 6 := by omega
          subst e
          have ka := hF.out.1.next (wN_ok 6) (by omega)
          rw [nextV_none wN_6.1] at ka
          have e6 : nextS (wN 6) = wN 6 := by
            have := wN_6.1
            unfold nextS
            cases h : nextO (wN 6) with
            | none => rfl
            | some x => rw [h] at this; cases this
          rw [e6] at ka
          have kb := fun W (h : FrIn w.heap.size w W f (wN 6)) => h.add (wN_ok 6) (by omega) 2 9 1
          rw [wN_6.2.1] at kb
          have e7 : addS (wN 6) 2 9 1 = wN 6 := by unfold addS; rw [wN_6.2.1]; rfl
          rw [e7] at kb
          have kc := fun W (h : FrIn w.heap.size w W f (wN 6)) => h.waiting (wN_ok 6).n4 0
          rw [wN_6.2.2] at kc
          clear e6 e7 hF
          go_wp2_with (first
            | (go_at_call 11; refine ka.mono ?_; rintro e W2 ⟨rfl, h1, -⟩; have kb2 := kb W2 h1; clear h1 ka kb)
            | (go_at_call 9; refine kb2.mono ?_; rintro e W3 ⟨rfl, h1, -⟩; have kc2 := kc W3 h1; have hq := hidden_ h1.below; clear h1 kb2 kc)
            | (go_at_call 15; refine kc2.mono ?_; rintro e W4 ⟨rfl, h1⟩; obtain rfl := h1.symm; clear kc2))
          go_ret
          exact ⟨rfl, hq.out⟩

end Go.Proofs.Ytkjmlbllpnehlaa
