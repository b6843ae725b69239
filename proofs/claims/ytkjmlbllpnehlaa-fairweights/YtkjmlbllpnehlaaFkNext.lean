/- Next. -/
import Derived.Test.YtkjmlbllpnehlaaRows
import Derived.Test.YtkjmlbllpnehlaaView
import Derived.Test.YtkjmlbllpnehlaaOwn
import Derived.Test.YtkjmlbllpnehlaaBase
import Derived.Test.YtkjmlbllpnehlaaFkZ
import Derived.Test.YtkjmlbllpnehlaaFkBy
import Derived.Test.YtkjmlbllpnehlaaFkAt
import Derived.Test.YtkjmlbllpnehlaaFkRd
import Derived.Test.YtkjmlbllpnehlaaFkFd
import Derived.Test.YtkjmlbllpnehlaaFkSo
import Derived.Test.YtkjmlbllpnehlaaFkDel
import Derived.Test.YtkjmlbllpnehlaaFkCan
import Derived.WalkKit
import Derived.ProofKit
import Derived.OpenShut
import Derived.Below
import Derived.WalkLawsBesides
import Derived.Deep.QuietTactic
import Derived.BigQuiet
import Derived.Maps.AppendAt
import Derived.OwnWalk
import Derived.Deep.Cut
namespace Go.Proofs.Ytkjmlbllpnehlaa
set_option maxRecDepth 20000
open Go.ChangeShapes Go.WideShapes Go.ChangeAt Go.RowKit
set_option linter.unusedVariables false
set_option linter.unusedSimpArgs false

def nextV : Option It → Value
  | none => .tuple #[.int .i64 0, .int .i64 0, .bool false]
  | some x => .tuple #[.int .i64 x.id, .int .i64 x.co, .bool true]
set_option maxHeartbeats 4000000 in
theorem next_call {B : Nat} {w : World} {f g : Nat} {A : Nat → Sl} {s : Fr} (h : FrAt B w f g A s) {k : Nat} (hk : FrOk k s) (hk1 : k ≤ 1000000) : Calls Try.prog 11 #[.pointer (some ⟨f, 0, none⟩)] w fun e w' => e = .returned (nextV (nextO s)) ∧ (∃ A', FrAt B w' f g A' (nextS s)) ∧ Off B TF w w' := by
  have ks := soonest_call h hk.n4
  cases hx : nextO s with
  | none =>
    rw [nextO_none.1 hx] at ks
    have e : nextS s = s := by unfold nextS; rw [hx]
    rw [e]
    have HF := hidden_ h
    clear e hx h hk
    dsimp only [bestA] at ks
    dsimp only [nextV]
    go_enter Try.func11, Try.ntmps11
    go_wp2_with (go_at_call 27; refine ks.mono ?_; rintro e W1 ⟨rfl, h1⟩; have hq := hidden_ h1; clear h1 ks)
    obtain ⟨m, hm⟩ := hq.out
    refine bodyPost_ret (v := .tuple #[.int .i64 0, .int .i64 0, .bool false]) (by simp [results, Try.results11, go_sem]) rfl ?_
    subst hm
    exact ⟨rfl, ⟨_, HF.out.drewN m⟩, (Off.refl _ _ _).drewN m⟩
  | some x =>
    obtain ⟨hxL, hbest, hhead⟩ := nextO_mem hx
    obtain ⟨hi, c1', c2', -⟩ := hk.it x hxL
    obtain ⟨w1, w2⟩ := hk.wt x.t hi
    obtain ⟨k1, k2⟩ := hk.ck x.t hi
    obtain ⟨t1, t2, t3, -⟩ := tick_ok c1' c2' w1 w2
    have hpos : 0 < (rowOf s.L x.t).length := by
      cases e : rowOf s.L x.t with
      | nil => rw [e] at hhead; cases hhead
      | cons y r => simp
    have h0 : (rowOf s.L x.t)[0] = x := by
      have e0 : (rowOf s.L x.t)[0]? = some x := by rw [← List.head?_eq_getElem?]; exact hhead
      exact (List.getElem?_eq_some_iff.1 e0).2
    have hL : rowOf (outL s.L x.id) x.t = (rowOf s.L x.t).eraseIdx 0 := by
      have := out_at (nodup_row hk.nd x.t) hpos
      rw [h0] at this
      rw [row_out, this]
    have hL2 : ∀ j, j < s.n → j ≠ x.t → rowOf (outL s.L x.id) j = rowOf s.L j := fun j hj hne => by
      rw [row_out]
      refine out_none ?_
      cases e : hasB (rowOf s.L j) x.id with
      | false => rfl
      | true =>
        obtain ⟨y, hy, he⟩ := has_mem.1 e
        have := inj_id hk.nd (mem_row.1 hy).1 hxL he
        rw [this] at hy
        exact absurd (mem_row.1 hy).2.symm hne
    -- behind each step
    have s1 : ∀ m, Hid (FrAt B ((w.drewN m).setCell ⟨f, 1, none⟩ (.int .i64 (s.ck x.t))) f g A { s with tm := s.ck x.t } ∧ Off B TF w ((w.drewN m).setCell ⟨f, 1, none⟩ (.int .i64 (s.ck x.t)))) ∧ (w.drewN m).cell? ⟨f, 1, none⟩ = some (.int .i64 s.tm) ∧ (w.drewN m).frozen? ⟨f, 1, none⟩ = false ∧ (w.drewN m).cell? ⟨g, x.t * 3 + 1, none⟩ = some (.int .i64 (s.ck x.t)) := fun m => by
      obtain ⟨a1, a2⟩ := (h.drewN m).setTm (s.ck x.t)
      exact ⟨⟨a1, ((Off.refl B TF w).drewN m).trans a2⟩, h.t1, h.top.open_ 1, h.c1 _ hi⟩
    have s2 : ∀ W, FrAt B W f g A { s with tm := s.ck x.t } → ∃ y, (A x.t).a = some ⟨y, 0, none⟩ ∧ W.cell? ⟨y, 0, none⟩ = some (.int .i64 x.id) ∧ W.cell? ⟨y, 1, none⟩ = some (.int .i64 x.co) ∧ W.cell? ⟨g, x.t * 3 + 2, none⟩ = some (.slice (A x.t).a (rowOf s.L x.t).length (A x.t).c) := fun W hW => by
      obtain ⟨y, a1, a2, a3, -⟩ := hW.cells hi hpos
      rw [Nat.zero_mul] at a2 a3
      have e0 : (rowOf { s with tm := s.ck x.t }.L x.t)[0] = x := h0
      rw [e0] at a2 a3
      exact ⟨y, a1, a2, a3, hW.c2 _ hi⟩
    have s3 : ∀ W, FrAt B W f g A { s with tm := s.ck x.t } → Calls Try.prog 28 #[.pointer (some ⟨g, x.t * 3, none⟩), .int .i64 0] W fun e w' => e = .returned (.tuple #[]) ∧ FrAt B w' f g (upd A x.t (A x.t)) { s with tm := s.ck x.t, L := outL s.L x.id } ∧ OffS B (fun t => t == 55) (blkOf (A x.t).a) W w' := fun W hW => takeOut_call hW hi (hk.few _) hpos hL hL2
    have s4 : ∀ W, FrAt B W f g (upd A x.t (A x.t)) { s with tm := s.ck x.t, L := outL s.L x.id } → Hid (FrAt B (W.setCell ⟨g, x.t * 3 + 1, none⟩ (.int .i64 (s.ck x.t + tick x.co (s.wt x.t)))) f g (upd A x.t (A x.t)) (nextS s) ∧ Off B TF W (W.setCell ⟨g, x.t * 3 + 1, none⟩ (.int .i64 (s.ck x.t + tick x.co (s.wt x.t))))) ∧ W.cell? ⟨g, x.t * 3 + 1, none⟩ = some (.int .i64 (s.ck x.t)) ∧ W.cell? ⟨g, x.t * 3, none⟩ = some (.int .i64 (s.wt x.t)) ∧ W.frozen? ⟨g, x.t * 3 + 1, none⟩ = false := fun W hW => by
      obtain ⟨a1, a2⟩ := hW.setCk hi (s.ck x.t + tick x.co (s.wt x.t))
      have e : nextS s = { s with tm := s.ck x.t, ck := upd s.ck x.t (s.ck x.t + tick x.co (s.wt x.t)), L := outL s.L x.id } := by unfold nextS; rw [hx]
      rw [e]
      exact ⟨⟨a1, a2⟩, hW.c1 _ hi, hW.c0 _ hi, hW.row.open_ _⟩
    have H2 := hidden_ (And.intro s2 (And.intro s3 s4))
    have ho := hidden_ (fun W (hW : FrAt B W f g A { s with tm := s.ck x.t }) w' o => FrAt.offTF hW hi (w' := w') o)
    have hA : ∀ q, blkOf (A x.t).a q → ∀ W, FrAt B W f g A { s with tm := s.ck x.t } → q < W.heap.size := fun q hq W hW => by
      obtain ⟨_, m, r⟩ := own_blk (hW.own x.t hi) hq
      exact r.lt
    have HA := hidden_ hA
    rw [hbest] at ks
    dsimp only [bestA] at ks
    dsimp only [nextV]
    have hck : (k : Int) * 7207200000 ≤ 7207200000000000 := by omega
    obtain ⟨D, eD⟩ : ∃ D, x.t * 3 = D := ⟨_, rfl⟩
    rw [eD] at ks s1
    have HD := hidden_ eD
    obtain ⟨C, eC⟩ : ∃ C, s.ck x.t = C := ⟨_, rfl⟩
    rw [eC] at s1 k1 k2
    have HC := hidden_ eC
    obtain ⟨V, eV⟩ : ∃ V, s.wt x.t = V := ⟨_, rfl⟩
    rw [eV] at w1 w2 t1 t2 t3
    have HV := hidden_ eV
    obtain ⟨y, ey⟩ : ∃ y, x.id = y := ⟨_, rfl⟩
    obtain ⟨c, ec⟩ : ∃ c, x.co = c := ⟨_, rfl⟩
    rw [ec] at c1' c2' t1 t2 t3
    obtain ⟨T, eT⟩ : ∃ T, tick c V = T := ⟨_, rfl⟩
    rw [eT] at t1 t2 t3
    rw [ey, ec]
    have HY := hidden_ (And.intro ey (And.intro ec eT))
    obtain ⟨l, el⟩ : ∃ l, (rowOf s.L x.t).length = l := ⟨_, rfl⟩
    rw [el] at hpos
    have HL := hidden_ el
    obtain ⟨⟨a, cp⟩, eA⟩ : ∃ q, A x.t = q := ⟨_, rfl⟩
    have hE := hidden_ eA
    have u1 : c * 720720 ≤ 7207200000 := by omega
    have u2 : 720720 ≤ c * 720720 := by omega
    obtain ⟨M, eM⟩ : ∃ M, c * 720720 = M := ⟨_, rfl⟩
    rw [eM] at t3 u1 u2
    have k3 : C ≤ 7207200000000000 := Int.le_trans k2 hck
    have u3 : C + T ≤ 7207300000000000 := by omega
    have u4 : 0 ≤ C + T := by omega
    clear k3 hxL hbest hhead hi h0 hL hL2 s2 s3 s4 hA eD eC eV ey ec eT el eA h hk hx hck k2
    go_enter Try.func11, Try.ntmps11
    go_upto_region 4 with (go_at_call 27; refine ks.mono ?_; rintro e W1 ⟨rfl, h1⟩; obtain ⟨m, rfl⟩ := h1; obtain ⟨hq, d1, d2, d3⟩ := s1 m; clear ks s1)
    go_upto_region 5 with fail
    clear d1 d2 d3
    obtain ⟨W2, eW2⟩ : ∃ W2, (w.drewN m).setCell ⟨f, 1, none⟩ (.int .i64 C) = W2 := ⟨_, rfl⟩
    rw [eW2] at hq ⊢
    rw [← HC.out] at hq
    obtain ⟨yb, ya, y0, y1, y2⟩ := H2.out.1 W2 hq.out.1
    rw [HY.out.1] at y0
    rw [HY.out.2.1] at y1
    rw [hE.out] at ya y2
    rw [HD.out, HL.out] at y2
    dsimp only at ya y2
    subst ya
    have ylt : yb < W2.heap.size := World.block_lt_of_cell? W2 _ y0
    have kt := fun W hW => H2.out.2.1 W hW
    rw [HD.out] at kt
    have hnw := below_new (Below.refl W2.heap.size W2) (.cells #[.int .i64 y, .int .i64 c] 63)
    have kt2 := kt _ (hq.out.1.below hnw)
    have HN := hidden_ (And.intro hnw ylt)
    clear eW2 kt hnw ylt
    go_upto_region 6 with fail
    clear y0 y1 y2
    go_upto_region 7 with (go_at_call 28; refine kt2.mono ?_; rintro e W3 ⟨rfl, h1, h2⟩; have hr := hidden_ (And.intro h1 h2); clear h1 h2 kt2)
    obtain ⟨hs, z1, z2, z3⟩ := H2.out.2.2 W3 hr.out.1
    have bk : W3.heap[W2.heap.size]? = (W2.alloc (.cells #[.int .i64 y, .int .i64 c] 63)).heap[W2.heap.size]? := hr.out.2.row (t := 63) (m := 2) ⟨_, heap_alloc_new W2 _, rfl⟩ rfl fun hb => Nat.lt_irrefl _ (HA.out _ hb W2 hq.out.1)
    have b0 : W3.cell? ⟨W2.heap.size, 0, none⟩ = some (.int .i64 y) := (cell_of_block bk 0).trans (by unfold World.cell?; rw [heap_alloc_new]; rfl)
    have b1 : W3.cell? ⟨W2.heap.size, 1, none⟩ = some (.int .i64 c) := (cell_of_block bk 1).trans (by unfold World.cell?; rw [heap_alloc_new]; rfl)
    rw [HD.out, HC.out] at z1
    rw [HD.out, HV.out] at z2
    rw [HD.out] at z3
    rw [HD.out, HC.out, HV.out, HY.out.2.1, HY.out.2.2] at hs
    obtain ⟨E, eE⟩ : ∃ E, W2.heap.size = E := ⟨_, rfl⟩
    rw [eE] at b0 b1 ⊢
    have hEg : E ≠ g := fun e => by
      have r1 : Row 63 W3 E 2 := (show Row 63 (W2.alloc (.cells #[.int .i64 y, .int .i64 c] 63)) W2.heap.size 2 from ⟨_, heap_alloc_new W2 _, rfl⟩).of_block bk |> fun r => by rw [eE] at r; exact r
      exact r1.ne hr.out.1.row (by decide) e
    have p0 : ∀ n, ((W3.drewN n).setCell ⟨g, D + 1, none⟩ (.int .i64 (C + T))).cell? ⟨E, 0, none⟩ = some (.int .i64 y) := fun n => (World.cell?_setCell_other _ _ _ _ (by simp [hEg])).trans b0
    have p1 : ∀ n, ((W3.drewN n).setCell ⟨g, D + 1, none⟩ (.int .i64 (C + T))).cell? ⟨E, 1, none⟩ = some (.int .i64 c) := fun n => (World.cell?_setCell_other _ _ _ _ (by simp [hEg])).trans b1
    have HP := hidden_ (And.intro p0 p1)
    have hoff := hidden_ ((hq.out.2.trans (Off.of_below HN.out.1)).trans ((ho.out _ (hq.out.1.below HN.out.1)) _ hr.out.2))
    clear bk b0 p0 p1 hEg
    have hV : ¬ V = 0 := by omega
    clear eE w1 w2
    go_region
    have p0 := HP.out.1 0
    have p1 := HP.out.2 0
    have hfin := hidden_ (show FrAt B (W3.setCell ⟨g, D + 1, none⟩ (.int .i64 (C + T))).drew f g (upd A x.t (A x.t)) (nextS s) ∧ Off B TF w (W3.setCell ⟨g, D + 1, none⟩ (.int .i64 (C + T))).drew from ⟨hs.out.1.drewN 1, (hoff.out.trans hs.out.2).drewN 1⟩)
    obtain ⟨W4, e4⟩ : ∃ W4, (W3.setCell ⟨g, D + 1, none⟩ (.int .i64 (C + T))).drew = W4 := ⟨_, rfl⟩
    have q0 : W4.cell? ⟨E, 0, none⟩ = some (.int .i64 y) := by rw [← e4]; exact p0
    have q1 : W4.cell? ⟨E, 1, none⟩ = some (.int .i64 c) := by rw [← e4]; exact p1
    rw [e4] at hfin ⊢
    clear z1 z2 z3 b1 e4 p0 p1 HP
    go_wp2
    go_quiet (fail)
    go_wp2
    refine bodyPost_ret (v := .tuple #[.int .i64 y, .int .i64 c, .bool true]) (by simp [results, Try.results11, go_sem]) rfl ?_
    exact ⟨rfl, ⟨_, hfin.out.1.drewN _⟩, hfin.out.2.drewN _⟩

end Go.Proofs.Ytkjmlbllpnehlaa
