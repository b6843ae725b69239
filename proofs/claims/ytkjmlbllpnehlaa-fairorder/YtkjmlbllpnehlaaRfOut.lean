/- The document's list without one; its Cancel. -/
import Derived.Test.YtkjmlbllpnehlaaRows
import Derived.Test.YtkjmlbllpnehlaaView
import Derived.Test.YtkjmlbllpnehlaaOwn
import Derived.Test.YtkjmlbllpnehlaaBase
import Derived.Test.YtkjmlbllpnehlaaInvIn
import Derived.Test.YtkjmlbllpnehlaaFkZ
import Derived.Test.YtkjmlbllpnehlaaFkBy
import Derived.Test.YtkjmlbllpnehlaaFkAt
import Derived.Test.YtkjmlbllpnehlaaFkRd
import Derived.Test.YtkjmlbllpnehlaaRfAt
import Derived.Test.YtkjmlbllpnehlaaRfReg
import Derived.Test.YtkjmlbllpnehlaaRfRd
import Derived.WalkKit
import Derived.ProofKit
import Derived.OpenShut
import Derived.Below
import Derived.WalkLawsBesides
import Derived.Deep.QuietTactic
import Derived.BigQuiet
import Derived.Maps.AppendAt
import Derived.OwnWalk
import Derived.Laws.OwnMore
namespace Go.Proofs.Ytkjmlbllpnehlaa
set_option maxRecDepth 20000
open Go.ChangeShapes Go.WideShapes Go.ChangeAt Go.RowKit
set_option linter.unusedVariables false
set_option linter.unusedSimpArgs false

theorem run_slice45 (gg L c K : Nat) (hK : K ≤ L) (hL : L ≤ c) (hc : c ≤ 9223372036854775807) (w : World) : (Instr.sliceAt 45 (.slice (some ⟨gg, 0, none⟩) L c) none (some (.int .i64 K)) none).run Try.prog w = .ok (.slice (some ⟨gg, 0, none⟩) K c) w := by
  have h1 : ¬ ((K : Int) < 0) := by omega
  have h2 : ¬ ((c : Int) < (K : Int)) := by omega
  have h3 : (K : Int) ≤ (c : Int) := by omega
  go_simp
theorem run_slice45b (gg L c K : Nat) (hK : K ≤ L) (hL : L ≤ c) (hc : c ≤ 9223372036854775807) : ∃ X : Addr, (∀ w, (Instr.sliceAt 45 (.slice (some ⟨gg, 0, none⟩) L c) (some (.int .i64 K)) none none).run Try.prog w = .ok (.slice (some X) (L - K) (c - K)) w) ∧ (K < L → X = ⟨gg, K * 3, none⟩) ∧ X.block = gg := by
  have h1 : ¬ ((K : Int) < 0) := by omega
  have h2 : ¬ ((L : Int) < (K : Int)) := by omega
  have h3 : (K : Int) ≤ (L : Int) := by omega
  by_cases e : K = c
  · subst e
    obtain rfl : L = K := by omega
    exact ⟨⟨gg, 0, none⟩, fun w => by go_simp, fun h => by omega, rfl⟩
  · have e' : ¬ c = K := fun h => e h.symm
    exact ⟨⟨gg, K * 3, none⟩, fun w => by go_simp, fun _ => rfl, rfl⟩
theorem run_add1 (K : Nat) (hK : K ≤ 1000000) (w : World) : (binOp .add 3 (.int .i64 (K : Int)) (.int .i64 1)).run Try.prog w = .ok (.int .i64 ((K + 1 : Nat) : Int)) w := by
  obtain ⟨K1, e⟩ : ∃ K1 : Int, ((K + 1 : Nat) : Int) = K1 := ⟨_, rfl⟩
  rw [e]
  have h1 : (K : Int) + 1 = K1 := by omega
  have h2 : 0 ≤ K1 := by omega
  have h3 : K1 ≤ 1000001 := by omega
  clear e
  go_simp
  have h4 : K1 % 18446744073709551616 = K1 := Int.emod_eq_of_lt h2 (by omega)
  simp [IntKind.wrap, IntKind.signed, IntKind.bits, h4]
  intro h5
  omega
theorem run_build45 (w : World) : (Instr.buildSlice 45 0 #[]).run Try.prog w = .ok (.slice (some ⟨w.heap.size, 0, none⟩) 0 0) (w.alloc (.cells #[] 47)) := by go_simp
theorem run_field57 (y f : Nat) (hf : f < 4) (w : World) : (Instr.fieldAt 57 (.pointer (some ⟨y, 0, none⟩)) f).run Try.prog w = .ok (.pointer (some ⟨y, f, none⟩)) w := by
  rcases (show f = 0 ∨ f = 1 ∨ f = 2 ∨ f = 3 by omega) with rfl | rfl | rfl | rfl <;> go_simp
theorem run_load45 {w : World} {q : Addr} {a : Option Addr} {n c : Nat} (h : w.cell? q = some (.slice a n c)) : (Instr.loadAt 45 (.pointer (some q))).run Try.prog w = .ok (.slice a n c) w := by go_simp
theorem run_store45 {w : World} {q : Addr} {a a' : Option Addr} {n c n' c' : Nat} (h : w.cell? q = some (.slice a n c)) (hf : w.frozen? q = false) : (Instr.storeAt 45 (.pointer (some q)) (.slice a' n' c')).run Try.prog w = .ok () (w.setCell q (.slice a' n' c')) := by go_simp
theorem rout_call {B : Nat} {w : World} {f : Nat} {p : Rp} {s : Fr} (h : RfAt B w f p s) {K : Nat} (hK : K < s.L.length) (hl : s.L.length ≤ 1000) :
    Calls Try.prog 29 #[.pointer (some ⟨f, 0, none⟩), .int .i64 (K : Int)] w fun e w' => e = .returned (.tuple #[]) ∧ (∃ p', RfAt B w' f p' { s with L := s.L.eraseIdx K }) ∧ OffS B (fun t => t == 57) (blkOf p.L.a) w w' := by
  obtain ⟨gg, ha, -, -, -, r1, hcm⟩ := h.cells hK
  have hB := h.lt.2
  have hcell : ∀ {W : World}, Below w.heap.size w W → ∀ j, j < s.L.length * 3 → W.cell? ⟨gg, j, none⟩ = (byF itF s.L)[j]? := fun {W} hb j hj => by
    have ho := (h.below hb).own
    rw [ha] at ho
    exact ho.cellAt j hj
  have b0 : Below w.heap.size w w.drew := below_drew (Below.refl _ _) ⟨1, rfl⟩
  have b1 : Below w.heap.size w (w.drew.alloc (.cells #[] 47)) := below_new b0 (.cells #[] 47)
  have own1 : (w.drew.alloc (.cells #[] 47)).ownsRow w.heap.size 47 3 (.slice (some ⟨w.heap.size, 0, none⟩) 0 0) 0 (byF itF []) := ⟨rfl, .inr ⟨w.heap.size, 0, #[], rfl, Nat.le_refl _, heap_alloc_new w.drew _, Nat.le_refl _, Nat.zero_le _, rfl, rfl⟩⟩
  obtain ⟨va, vc, W2, x8, own2, bb2, kp2, -⟩ := append_by knd_it (E := s.L.take K) own1 b1.size ⟨gg, 0, none⟩ K p.L.c (by rw [List.length_take]; omega) (fun j u hj => by
    rw [← by_take knd_it] at hj
    have hj5 : j < K * 3 := by have := (List.getElem?_eq_some_iff.1 hj).1; rw [List.length_take] at this; omega
    rw [add_zero_at, hcell b1 j (by omega), ← hj, List.getElem?_take, if_pos hj5]) (by omega) (by omega) 45
  have b2 : Below w.heap.size w W2 := b1.trans bb2
  obtain ⟨X, x15', hX, hXb⟩ := run_slice45b gg s.L.length p.L.c (K + 1) (by omega) r1 hcm
  obtain ⟨da, dc, W3, x16, own3, bb3, kp3, -⟩ := append_by knd_it (E := s.L.drop (K + 1)) own2 b2.size X (s.L.length - (K + 1)) (p.L.c - (K + 1)) (by rw [List.length_drop]) (fun j u hj => by
    rw [← by_drop knd_it] at hj
    rw [List.getElem?_drop] at hj
    have hj5 := (List.getElem?_eq_some_iff.1 hj).1
    rw [by_len knd_it] at hj5
    rw [hX (by omega), show ((⟨gg, (K + 1) * 3, none⟩ : Addr).add j) = ⟨gg, (K + 1) * 3 + j, none⟩ by simp [Addr.add], hcell b2 _ (by omega), hj]) (by omega) (by omega) 45
  have b3 : Below w.heap.size w W3 := b2.trans bb3
  have herase : s.L.take K ++ s.L.drop (K + 1) = s.L.eraseIdx K := by rw [List.eraseIdx_eq_take_drop_succ]
  have hlen : 0 + K + (s.L.length - (K + 1)) = (s.L.eraseIdx K).length := by rw [List.length_eraseIdx, if_pos hK]; omega
  simp only [List.nil_append, Nat.zero_add, herase] at own3 x16 x8 own2 hlen
  rw [hlen] at own3 x16
  obtain ⟨hD, hoff, c2', fz⟩ := h.setL (OffS.of_below b3) (x := ⟨da, dc⟩) (own_mono own3 hB)
  have hst := run_store45 (a' := da) (n' := (s.L.eraseIdx K).length) (c' := dc) c2' fz
  have c2 := h.t2
  have c2a := (h.below b1).t2
  have c2b := (h.below b2).t2
  have c2c := (h.below b3).t2
  rw [ha] at c2 c2a c2b c2c
  go_enter Try.func29, Try.ntmps29
  refine ou_region f w.heap.size (K : Int) ((K + 1 : Nat) : Int) (some ⟨gg, 0, none⟩) s.L.length p.L.c (some ⟨gg, 0, none⟩) K p.L.c (some X) (s.L.length - (K + 1)) (p.L.c - (K + 1)) va K vc da _ dc _ W2 W3 _ (fun W => W.cell? ⟨f, 2, none⟩ = some (.slice (some ⟨gg, 0, none⟩) s.L.length p.L.c)) (by kernel_rfl) rfl ⟨_, rfl, rfl, rfl, rfl, by kernel_rfl⟩ ⟨_, rfl, rfl, rfl, rfl, by kernel_rfl⟩ ⟨_, rfl, rfl, rfl, rfl, by kernel_rfl⟩ ⟨_, rfl, rfl, rfl, rfl, by kernel_rfl⟩ ⟨_, rfl, rfl, rfl, rfl, by kernel_rfl⟩ ⟨_, rfl, rfl, rfl, rfl, by kernel_rfl⟩ ⟨_, rfl, rfl, rfl, rfl, by kernel_rfl⟩ ⟨_, rfl, rfl, rfl, rfl, by kernel_rfl⟩ ⟨_, rfl, rfl, rfl, rfl, by kernel_rfl⟩ ⟨_, rfl, rfl, rfl, rfl, by kernel_rfl⟩ ⟨_, rfl, rfl, rfl, rfl, by kernel_rfl⟩ ⟨_, rfl, rfl, rfl, rfl, by kernel_rfl⟩ ⟨_, rfl, rfl, rfl, rfl, by kernel_rfl⟩ ⟨_, rfl, rfl, rfl, rfl, by kernel_rfl⟩ ⟨_, rfl, rfl, rfl, rfl, by kernel_rfl⟩ ⟨_, rfl, rfl, rfl, rfl, by kernel_rfl⟩ ⟨_, rfl, rfl, rfl, rfl, by kernel_rfl⟩ ⟨_, rfl, rfl, rfl, rfl, by kernel_rfl⟩ ⟨_, rfl, rfl, rfl, rfl, by kernel_rfl⟩ ⟨_, rfl, rfl, rfl, rfl, by kernel_rfl⟩ 45 (fun o h => by cases h; rfl) 45 (fun o h => by cases h; rfl) c2 c2a c2b c2c (run_build45 _) (run_field57 f 2 (by decide)) (fun W hW => run_load45 hW) (run_slice45 gg s.L.length p.L.c K (by omega) r1 hcm) x8 (run_field57 f 2 (by decide)) (fun W hW => run_load45 hW) (run_add1 K (by omega)) x15' x16 (run_field57 f 2 (by decide)) hst rfl rfl (Nat.le_of_ble_eq_true rfl) ?_
  intro A hs hd hkp hval
  refine bodyPost_end (results_none rfl _ _ _) hd ?_
  exact ⟨rfl, ⟨_, hD⟩, hoff⟩
theorem rcancel_call {B : Nat} {w : World} {f : Nat} {p : Rp} {s : Fr} (h : RfAt B w f p s) {k : Nat} (hk : FrOk k s) (id : Int) (hl : s.L.length ≤ 1000) : Calls Try.prog 14 #[.pointer (some ⟨f, 0, none⟩), .int .i64 id] w fun e w' => e = .returned (.bool (hasB s.L id)) ∧ (∃ p', RfAt B w' f p' (canS s id)) ∧ Off B TR w w' := by
  have ka := rat_call h id
  cases hb : hasB s.L id with
  | false =>
    rw [pl_no hb] at ka
    have e : canS s id = s := by unfold canS; rw [out_none hb]
    rw [e]
    have HH := hidden_ h
    clear e hb h hk
    go_enter Try.func14, Try.ntmps14
    go_wp2_with (go_at_call 26; refine ka.mono ?_; rintro e W1 ⟨rfl, h1⟩; obtain rfl := h1.symm)
    go_ret
    exact ⟨rfl, ⟨_, HH.out⟩, Off.refl _ _ _⟩
  | true =>
    obtain ⟨K, hK, hpl, hid, hne⟩ := pl_yes hb
    rw [hpl] at ka
    have e : outL s.L id = s.L.eraseIdx K := by rw [← hid]; exact out_at hk.nd hK
    have ko := rout_call h hK hl
    rw [← e] at ko
    have hK0 : (0 : Int) ≤ (K : Int) := by omega
    have hK1 : (K : Int) ≤ 1000 := by omega
    have HO := hidden_ (fun w' o => RfAt.offTR h (w' := w') o)
    clear e hb h hk hpl hid hne hl hK
    go_enter Try.func14, Try.ntmps14
    go_wp2_with (first
      | (go_at_call 26; refine ka.mono ?_; rintro e W1 ⟨rfl, h1⟩; obtain rfl := h1.symm)
      | (go_at_call 29; refine ko.mono ?_; rintro e W2 ⟨rfl, h1, h2⟩; have hq := hidden_ (And.intro h1 (HO.out _ h2)); clear h1 h2 ko))
    go_ret
    exact ⟨rfl, hq.out.1, hq.out.2⟩

end Go.Proofs.Ytkjmlbllpnehlaa
