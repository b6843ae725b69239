/- Something is taken out of a tenant; Cancel. -/
import Derived.Test.YtkjmlbllpnehlaaRows
import Derived.Test.YtkjmlbllpnehlaaView
import Derived.Test.YtkjmlbllpnehlaaOwn
import Derived.Test.YtkjmlbllpnehlaaBase
import Derived.Test.YtkjmlbllpnehlaaFkZ
import Derived.Test.YtkjmlbllpnehlaaFkBy
import Derived.Test.YtkjmlbllpnehlaaFkAt
import Derived.Test.YtkjmlbllpnehlaaFkRd
import Derived.Test.YtkjmlbllpnehlaaFkFd
import Derived.Test.YtkjmlbllpnehlaaFkSo
import Derived.Test.YtkjmlbllpnehlaaFkDel
import Derived.WalkKit
import Derived.ProofKit
import Derived.OpenShut
import Derived.Below
import Derived.WalkLawsBesides
import Derived.Deep.QuietTactic
import Derived.BigQuiet
import Derived.Maps.AppendAt
import Derived.OwnWalk
namespace Go.Proofs.Ytkjmlbllpnehlaa
set_option maxRecDepth 20000
open Go.ChangeShapes Go.WideShapes Go.ChangeAt Go.RowKit
set_option linter.unusedVariables false
set_option linter.unusedSimpArgs false

theorem FrAt.rowS {B : Nat} {w : World} {f g : Nat} {A : Nat → Sl} {s : Fr} (h : FrAt B w f g A s) {W : World} {i : Nat} (hi : i < s.n) (hW : OffS B (fun _ => false) (blkOf (A i).a) w W) (p : Nat) (v : Value) : OffS B (fun t => t == 55) (blkOf (A i).a) w (W.setCell ⟨g, p, none⟩ v) := by
  have kg := hW.row h.row rfl (fun hb => (h.rowne hi hb).2 rfl)
  exact (hW.mono (fun _ _ => rfl) (fun _ x => x)).trans ((Off.set (T := fun t => t == 55) (h.row.of_block kg) h.Bg rfl p v).toS (blkOf (A i).a)) (fun _ x => .inl x)
theorem FrAt.offTF {B : Nat} {w : World} {f g : Nat} {A : Nat → Sl} {s : Fr} (h : FrAt B w f g A s) {w' : World} {i : Nat} (hi : i < s.n) (o : OffS B (fun t => t == 55) (blkOf (A i).a) w w') : Off B TF w w' := ⟨o.os, o.tape, o.output, o.size, fun k hk hc => o.block k hk (by
  rcases hc with hc | hc
  · exact .inl hc
  · refine .inr ⟨fun hb => ?_, fun t ht => ?_⟩
    · obtain ⟨_, m, r⟩ := own_blk (h.own i hi) hb
      have := hc 63 r.type
      cases this
    · have := hc t ht
      simp only [TF, Bool.or_eq_false_iff] at this
      exact this.1.2)⟩
theorem takeOut_call {B : Nat} {w : World} {f g : Nat} {A : Nat → Sl} {s : Fr} (h : FrAt B w f g A s) {i : Nat} (hi : i < s.n) (hf : (rowOf s.L i).length ≤ 16) {K : Nat} (hK : K < (rowOf s.L i).length) {L' : List It} (hL : rowOf L' i = (rowOf s.L i).eraseIdx K) (hL2 : ∀ j, j < s.n → j ≠ i → rowOf L' j = rowOf s.L j) :
    Calls Try.prog 28 #[.pointer (some ⟨g, i * 3, none⟩), .int .i64 (K : Int)] w fun e w' => e = .returned (.tuple #[]) ∧ FrAt B w' f g (upd A i (A i)) { s with L := L' } ∧ OffS B (fun t => t == 55) (blkOf (A i).a) w w' := by
  have c2 := h.c2 i hi
  obtain ⟨d, ed⟩ : ∃ d, (rowOf s.L i).length = d + 1 := ⟨(rowOf s.L i).length - 1, by omega⟩
  have ho := h.own i hi
  rw [ed] at c2 ho
  have kd := delete_call ho ed K (by omega) (by omega)
  have hlen : (rowOf L' i).length = d := by rw [hL, List.length_eraseIdx, if_pos hK]; omega
  have key : ∀ W, W.ownsRow B 63 2 (.slice (A i).a d (A i).c) d (byF thF ((rowOf s.L i).eraseIdx K)) → OffS B (fun _ => false) (blkOf (A i).a) w W → Hid (FrAt B (W.setCell ⟨g, i * 3 + 2, none⟩ (.slice (A i).a d (A i).c)) f g (upd A i (A i)) { s with L := L' } ∧ OffS B (fun t => t == 55) (blkOf (A i).a) w (W.setCell ⟨g, i * 3 + 2, none⟩ (.slice (A i).a d (A i).c))) ∧ W.cell? ⟨g, i * 3 + 2, none⟩ = some (.slice (A i).a (d + 1) (A i).c) ∧ W.frozen? ⟨g, i * 3 + 2, none⟩ = false := by
    intro W ho2 hoff
    rw [← hL, ← hlen] at ho2
    obtain ⟨a1, a2, a3, a4⟩ := h.setRow hi hoff (x := A i) ho2 (fun k hk => .inl hk) hL2
    rw [hlen] at a1
    refine ⟨⟨a1, h.rowS hi hoff _ _⟩, (a3 _).trans c2, a4⟩
  have hk2 : K ≤ 16 := by omega
  have hd2 : d ≤ 16 := by omega
  obtain ⟨o, eo⟩ : ∃ o, i * 3 = o := ⟨_, rfl⟩
  rw [eo] at c2 key ⊢
  obtain ⟨⟨a, c⟩, eA⟩ : ∃ x, A i = x := ⟨_, rfl⟩
  rw [eA] at c2 key kd ⊢
  dsimp only at c2 key kd ⊢
  have HK := hidden_ key
  clear key hL hL2 hlen ho ed eo eA h hK hf
  go_enter Try.func28, Try.ntmps28
  go_wp2_with (go_at_call 33; refine kd.mono ?_; rintro e W1 ⟨rfl, h1, h2⟩; obtain ⟨hq, cq, fq⟩ := HK.out W1 h1 h2; clear h1 h2 kd)
  refine bodyPost_end (results_none rfl _ _ _) rfl ?_
  exact ⟨rfl, hq.out.1, hq.out.2⟩
theorem cancel_call {B : Nat} {w : World} {f g : Nat} {A : Nat → Sl} {s : Fr} (h : FrAt B w f g A s) {k : Nat} (hk : FrOk k s) (id : Int) : Calls Try.prog 13 #[.pointer (some ⟨f, 0, none⟩), .int .i64 id] w fun e w' => e = .returned (.bool (hasB s.L id)) ∧ (∃ A', FrAt B w' f g A' (canS s id)) ∧ Off B TF w w' := by
  cases hb : hasB s.L id with
  | false =>
    have kf := find_no h hk.n4 id hb
    have e : canS s id = s := by unfold canS; rw [out_none hb]
    rw [e]
    have HF := hidden_ h
    clear e hb h hk
    go_enter Try.func13, Try.ntmps13
    go_wp2_with (go_at_call 24; refine kf.mono ?_; rintro e W1 ⟨rfl, h1⟩; have hq := hidden_ h1; clear h1 kf)
    go_ret
    exact ⟨rfl, ⟨_, HF.out.below hq.out⟩, Off.of_below hq.out⟩
  | true =>
    obtain ⟨x, hx, rfl⟩ := has_mem.1 hb
    have hi := (hk.it x hx).1
    obtain ⟨K, hK, hKx, kf⟩ := find_yes h hk.n4 hx hi hk.nd
    have hL : rowOf (outL s.L x.id) x.t = (rowOf s.L x.t).eraseIdx K := by
      have := out_at (nodup_row hk.nd x.t) hK
      rw [hKx] at this
      rw [row_out, this]
    have hL2 : ∀ j, j < s.n → j ≠ x.t → rowOf (outL s.L x.id) j = rowOf s.L j := fun j hj hne => by
      rw [row_out]
      refine out_none ?_
      cases e : hasB (rowOf s.L j) x.id with
      | false => rfl
      | true =>
        obtain ⟨y, hy, he⟩ := has_mem.1 e
        have := inj_id hk.nd (mem_row.1 hy).1 hx he
        rw [this] at hy
        exact absurd (mem_row.1 hy).2.symm hne
    have key := fun (W : World) (hF : FrAt B W f g A s) => takeOut_call hF hi (hk.few _) hK hL hL2
    have HF := hidden_ (And.intro h hi)
    obtain ⟨o, eo⟩ : ∃ o, x.t * 3 = o := ⟨_, rfl⟩
    rw [eo] at kf key
    obtain ⟨y, ey⟩ : ∃ y, x.id = y := ⟨_, rfl⟩
    rw [ey] at kf ⊢
    have HY := hidden_ ey
    clear hL hL2 eo hb h hk hx hi ey
    go_enter Try.func13, Try.ntmps13
    go_wp2_with (first
      | (go_at_call 24; refine kf.mono ?_; rintro e W1 ⟨rfl, h1⟩; have hq := hidden_ h1; have kt := key W1 (HF.out.1.below h1); clear h1 kf key)
      | (go_at_call 28; refine kt.mono ?_; rintro e W2 ⟨rfl, h1, h2⟩; have hr := hidden_ (And.intro h1 h2); clear h1 h2 kt))
    go_ret
    exact ⟨rfl, ⟨_, by unfold canS; rw [← HY.out]; exact hr.out.1⟩, (Off.of_below hq.out).trans ((HF.out.1.below hq.out).offTF HF.out.2 hr.out.2)⟩

end Go.Proofs.Ytkjmlbllpnehlaa
