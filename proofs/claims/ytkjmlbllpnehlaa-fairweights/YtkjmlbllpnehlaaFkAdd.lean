/- Add. -/
import Derived.Test.YtkjmlbllpnehlaaRows
import Derived.Test.YtkjmlbllpnehlaaView
import Derived.Test.YtkjmlbllpnehlaaOwn
import Derived.Test.YtkjmlbllpnehlaaBase
import Derived.Test.YtkjmlbllpnehlaaFkZ
import Derived.Test.YtkjmlbllpnehlaaFkBy
import Derived.Test.YtkjmlbllpnehlaaFkAt
import Derived.Test.YtkjmlbllpnehlaaFkRd
import Derived.Test.YtkjmlbllpnehlaaFkFd
import Derived.Test.YtkjmlbllpnehlaaFkSo
import Derived.Test.YtkjmlbllpnehlaaFkDel
import Derived.Test.YtkjmlbllpnehlaaFkCan
import Derived.WalkKit
import Derived.ProofKit
import Derived.OpenShut
import Derived.Below
import Derived.WalkLawsBesides
import Derived.Deep.QuietTactic
import Derived.BigQuiet
import Derived.Maps.AppendAt
import Derived.OwnWalk
import Derived.Deep.Cut
namespace Go.Proofs.Ytkjmlbllpnehlaa
set_option maxRecDepth 20000
open Go.ChangeShapes Go.WideShapes Go.ChangeAt Go.RowKit
set_option linter.unusedVariables false
set_option linter.unusedSimpArgs false

/-- one more waits of a tenant -/
theorem FrAt.more {B : Nat} {w : World} {f g : Nat} {A : Nat → Sl} {s : Fr} (h : FrAt B w f g A s) {i : Nat} (hi : i < s.n) (hf : (rowOf s.L i).length ≤ 1000) (id co : Int) :
    ∃ a' c' W5, (Builtin.append_ #[53, 53] 53 #[.slice (A i).a (rowOf s.L i).length (A i).c, .slice (some ⟨w.heap.size, 0, none⟩) 1 1]).run Try.prog (w.alloc (.cells #[.int .i64 id, .int .i64 co] 63)) = .ok (.slice a' ((rowOf s.L i).length + 1) c') W5 ∧
      Hid (FrAt B (W5.setCell ⟨g, i * 3 + 2, none⟩ (.slice a' ((rowOf s.L i).length + 1) c')) f g (upd A i ⟨a', c'⟩) { s with L := s.L ++ [(⟨i, id, co⟩ : It)] } ∧ Off B TF w (W5.setCell ⟨g, i * 3 + 2, none⟩ (.slice a' ((rowOf s.L i).length + 1) c'))) ∧
      W5.cell? ⟨g, i * 3 + 2, none⟩ = some (.slice (A i).a (rowOf s.L i).length (A i).c) ∧ W5.frozen? ⟨g, i * 3 + 2, none⟩ = false := by
  have hb := below_new (Below.refl w.heap.size w) (.cells #[.int .i64 id, .int .i64 co] 63)
  have h2 := h.below hb
  have hlt := h.lt.2.2
  have e1 : (w.alloc (.cells #[.int .i64 id, .int .i64 co] 63)).heap[w.heap.size]? = some (.cells #[.int .i64 id, .int .i64 co] 63) := heap_alloc_new w _
  obtain ⟨a', c', W5, hr, ho, hbl, hoff, hnew⟩ := append_by knd_th (D := rowOf s.L i) (E := [(⟨i, id, co⟩ : It)]) (h2.own i hi) (Nat.le_trans hlt hb.size) ⟨w.heap.size, 0, none⟩ 1 1 rfl (fun j u hj => by
    have hj2 : j < 2 := by have := (List.getElem?_eq_some_iff.1 hj).1; simpa [byF, thF] using this
    rcases (show j = 0 ∨ j = 1 by omega) with rfl | rfl
    · have : u = .int .i64 id := by simpa [byF, thF] using hj.symm
      rw [this, add_zero_at]
      unfold World.cell?
      rw [e1]
      rfl
    · have : u = .int .i64 co := by simpa [byF, thF] using hj.symm
      rw [this, add_zero_at]
      unfold World.cell?
      rw [e1]
      rfl) (by omega) (by omega) 53
  have hL : rowOf (s.L ++ [(⟨i, id, co⟩ : It)]) i = rowOf s.L i ++ [(⟨i, id, co⟩ : It)] := by rw [row_append, row_one, if_pos rfl]
  have hlen : (rowOf (s.L ++ [(⟨i, id, co⟩ : It)]) i).length = (rowOf s.L i).length + 1 := by rw [hL]; simp
  rw [← hL, ← hlen] at ho
  have hoff2 : OffS B (fun _ => false) (blkOf (A i).a) w W5 := (OffS.of_below hb).trans hoff (fun _ x => .inl x)
  obtain ⟨a1, a2, a3, a4⟩ := h.setRow hi hoff2 (x := ⟨a', c'⟩) ho (fun k hk => by
    rcases hnew k hk with q | q
    · exact .inl q
    · exact .inr (by rw [q]; exact hb.size)) (fun j hj hne => by
      rw [row_append, row_one, if_neg (fun e => hne e.symm), List.append_nil])
  rw [hlen] at a1 a2
  exact ⟨a', c', W5, hr, ⟨a1, a2⟩, (a3 _).trans (h.c2 i hi), a4⟩
set_option maxHeartbeats 4000000 in
theorem add_call {B : Nat} {w : World} {f g : Nat} {A : Nat → Sl} {s : Fr} (h : FrAt B w f g A s) {k : Nat} (hk : FrOk k s) (hk1 : k ≤ 1000000) (z id co : Int) : Calls Try.prog 9 #[.pointer (some ⟨f, 0, none⟩), .int .i64 z, .int .i64 id, .int .i64 co] w fun e w' => e = .returned (.int .i64 (addE s z id co)) ∧ (∃ A', FrAt B w' f g A' (addS s z id co)) ∧ Off B TF w w' := by
  have kn := numbered_call h hk.n4 z
  cases hn : numB s z with
  | false =>
    have e : addE s z id co = 20 := by unfold addE; rw [if_pos (.inl hn)]
    have e2 : addS s z id co = s := by unfold addS; rw [if_neg (by rw [e]; decide)]
    have e3 : tenA g s z = none := by unfold tenA; rw [if_neg (by rw [hn]; decide)]
    rw [e3] at kn
    rw [e, e2]
    have HF := hidden_ h
    clear e e2 e3 hn h hk
    go_enter Try.func9, Try.ntmps9
    go_wp2_with (go_at_call 23; refine kn.mono ?_; rintro e W1 ⟨rfl, h1⟩; obtain rfl := h1.symm)
    go_ret
    exact ⟨rfl, ⟨_, HF.out⟩, Off.refl _ _ _⟩
  | true =>
    obtain ⟨z0, z1, z2, z3⟩ := num_nat hn
    have e3 : tenA g s z = some ⟨g, z.toNat * 3, none⟩ := by unfold tenA; rw [if_pos hn]
    rw [e3] at kn
    by_cases hc : co < 1 ∨ 10000 < co
    · have e : addE s z id co = 20 := by unfold addE; rw [if_pos (.inr hc)]
      have e2 : addS s z id co = s := by unfold addS; rw [if_neg (by rw [e]; decide)]
      rw [e, e2]
      have HF := hidden_ h
      obtain ⟨o, eo⟩ : ∃ o, z.toNat * 3 = o := ⟨_, rfl⟩
      rw [eo] at kn
      clear e e2 e3 hn h hk z0 z1 z2 z3 eo
      rcases hc with hc | hc
      · go_enter Try.func9, Try.ntmps9
        go_wp2_with (go_at_call 23; refine kn.mono ?_; rintro e W1 ⟨rfl, h1⟩; obtain rfl := h1.symm)
        go_ret
        exact ⟨rfl, ⟨_, HF.out⟩, Off.refl _ _ _⟩
      · have hc2 : ¬ co < 1 := by omega
        go_enter Try.func9, Try.ntmps9
        go_wp2_with (go_at_call 23; refine kn.mono ?_; rintro e W1 ⟨rfl, h1⟩; obtain rfl := h1.symm)
        go_ret
        exact ⟨rfl, ⟨_, HF.out⟩, Off.refl _ _ _⟩
    · have hc1 : ¬ co < 1 := fun x => hc (.inl x)
      have hc2 : ¬ 10000 < co := fun x => hc (.inr x)
      have f1 : ¬ (numB s z = false ∨ co < 1 ∨ 10000 < co) := fun x => x.elim (fun y => by rw [hn] at y; cases y) hc
      cases hb : hasB s.L id with
      | true =>
        have e : addE s z id co = 26 := by unfold addE; rw [if_neg f1, if_pos hb]
        have e2 : addS s z id co = s := by unfold addS; rw [if_neg (by rw [e]; decide)]
        obtain ⟨x, hx, rfl⟩ := has_mem.1 hb
        obtain ⟨K, hK, hKx, kf⟩ := find_yes h hk.n4 hx (hk.it x hx).1 hk.nd
        rw [e, e2]
        have HF := hidden_ h
        obtain ⟨o, eo⟩ : ∃ o, z.toNat * 3 = o := ⟨_, rfl⟩
        rw [eo] at kn
        obtain ⟨o2, eo2⟩ : ∃ o2, x.t * 3 = o2 := ⟨_, rfl⟩
        rw [eo2] at kf
        obtain ⟨y, ey⟩ : ∃ y, x.id = y := ⟨_, rfl⟩
        rw [ey] at kf ⊢
        clear e e2 e3 hn h hk z0 z1 z2 z3 eo hK hKx hx eo2 ey hb f1 hc
        go_enter Try.func9, Try.ntmps9
        go_wp2_with (first
          | (go_at_call 23; refine kn.mono ?_; rintro e W1 ⟨rfl, h1⟩; obtain rfl := h1.symm; clear kn)
          | (go_at_call 24; refine kf.mono ?_; rintro e W2 ⟨rfl, h1⟩; have hq := hidden_ h1; clear h1 kf))
        go_ret
        exact ⟨rfl, ⟨_, HF.out.below hq.out⟩, Off.of_below hq.out⟩
      | false =>
        have kf := find_no h hk.n4 id hb
        have f2 : ¬ hasB s.L id = true := by rw [hb]; decide
        by_cases hl : 16 ≤ (rowOf s.L z.toNat).length
        · have e : addE s z id co = 5 := by unfold addE; rw [if_neg f1, if_neg f2, if_pos hl]
          have e2 : addS s z id co = s := by unfold addS; rw [if_neg (by rw [e]; decide)]
          rw [e, e2]
          have HF := hidden_ (And.intro h z2)
          obtain ⟨o, eo⟩ : ∃ o, z.toNat * 3 = o := ⟨_, rfl⟩
          rw [eo] at kn
          have HE := hidden_ eo
          obtain ⟨l, el⟩ : ∃ l, (rowOf s.L z.toNat).length = l := ⟨_, rfl⟩
          rw [el] at hl
          have HL := hidden_ el
          clear e e2 e3 hn h hk z0 z1 z2 z3 eo hb f1 hc el f2
          go_enter Try.func9, Try.ntmps9
          go_wp2_with (first
            | (go_at_call 23; refine kn.mono ?_; rintro e W1 ⟨rfl, h1⟩; obtain rfl := h1.symm; clear kn)
            | (go_at_call 24; refine kf.mono ?_; rintro e W2 ⟨rfl, h1⟩; have hq := hidden_ h1; have c2 := (HF.out.1.below h1).c2 _ HF.out.2; rw [HL.out, HE.out] at c2; clear h1 kf))
          go_ret
          exact ⟨rfl, ⟨_, HF.out.1.below hq.out⟩, Off.of_below hq.out⟩
        · have e : addE s z id co = 0 := by unfold addE; rw [if_neg f1, if_neg f2, if_neg hl]
          have e2 : addS s z id co = { s with ck := raised s z.toNat, L := s.L ++ [(⟨z.toNat, id, co⟩ : It)] } := by unfold addS; rw [if_pos e]
          rw [e, e2]
          obtain ⟨i, ei⟩ : ∃ i, z.toNat = i := ⟨_, rfl⟩
          rw [ei] at kn hl z2 ⊢
          obtain ⟨k1, k2⟩ := hk.ck i z2
          have t0 := hk.tm0
          have t1 := hk.tm1
          have kb : (k : Int) * 7207200000 ≤ 7207200000000000 := by omega
          replace k2 := Int.le_trans k2 kb
          replace t1 := Int.le_trans t1 kb
          have HK := hidden_ (fun (W : World) (hF : FrAt B W f g A { s with ck := raised s i }) => hF.more z2 (by show (rowOf s.L i).length ≤ 1000; omega) id co)
          have HR := hidden_ (raised_at s i)
          have HF := hidden_ (And.intro h z2)
          obtain ⟨l, el⟩ : ∃ l, (rowOf s.L i).length = l := ⟨_, rfl⟩
          have HK2 := HK.out
          dsimp only at HK2
          rw [el] at HK2 hl
          have HL := hidden_ el
          obtain ⟨⟨a, c⟩, eA⟩ : ∃ x, A i = x := ⟨_, rfl⟩
          rw [eA] at HK2
          dsimp only at HK2
          have HA := hidden_ eA
          obtain ⟨o, eo⟩ : ∃ o, i * 3 = o := ⟨_, rfl⟩
          rw [eo] at kn HK2
          have HO := hidden_ eo
          replace HK := hidden_ HK2
          obtain ⟨C, eC⟩ : ∃ C, s.ck i = C := ⟨_, rfl⟩
          obtain ⟨T, eT⟩ : ∃ T, s.tm = T := ⟨_, rfl⟩
          rw [eC] at k1 k2
          rw [eT] at t0 t1
          have HC := hidden_ (And.intro eC eT)
          have hl16 : l ≤ 16 := by omega
          have hl' : ¬ (16 : Int) ≤ (l : Int) := by omega
          clear e e2 e3 hn h hk z0 z1 z3 eo hb f1 hc el f2 eA eC eT HK2 hl z2 kb
          by_cases hl0 : l = 0
          · subst hl0
            have hrow : rowOf s.L i = [] := List.eq_nil_of_length_eq_zero HL.out
            have hraise : ∀ W, FrAt B W f g A s → Hid (FrAt B (W.setCell ⟨g, o + 1, none⟩ (.int .i64 (max C T))) f g A { s with ck := raised s i } ∧ Off B TF W (W.setCell ⟨g, o + 1, none⟩ (.int .i64 (max C T)))) ∧ W.cell? ⟨g, o + 1, none⟩ = some (.int .i64 C) ∧ W.cell? ⟨f, 1, none⟩ = some (.int .i64 T) ∧ W.frozen? ⟨g, o + 1, none⟩ = false ∧ W.cell? ⟨g, o + 2, none⟩ = some (.slice a 0 c) := fun W hW => by
              obtain ⟨a1, a2⟩ := hW.setCk HF.out.2 (max C T)
              have er : raised s i = upd s.ck i (max C T) := by unfold raised; rw [if_pos hrow, HC.out.1, HC.out.2]
              rw [er, ← HO.out]
              have b1 := hW.c1 _ HF.out.2
              rw [HC.out.1] at b1
              have b2 := hW.t1
              rw [HC.out.2] at b2
              have b3 := hW.c2 _ HF.out.2
              rw [HL.out, HA.out] at b3
              exact ⟨⟨a1, a2⟩, b1, b2, hW.row.open_ _, b3⟩
            have HR2 := hidden_ hraise
            clear hraise hrow
            have cases3 : C < T ∨ C = T ∨ T < C := by omega
            obtain ⟨U, eU⟩ : ∃ U, max C T = U := ⟨_, rfl⟩
            rw [eU] at HR2
            rcases cases3 with hlt | hlt | hlt
            · obtain rfl : T = U := by omega
              have n1 : ¬ T < C := by omega
              have n2 : ¬ C = T := by omega
              clear eU
              go_enter Try.func9, Try.ntmps9
              go_upto_region 10 with (first
                | (go_at_call 23; refine kn.mono ?_; rintro e W1 ⟨rfl, h1⟩; obtain rfl := h1.symm; clear kn)
                | (go_at_call 24; refine kf.mono ?_; rintro e W2 ⟨rfl, h1⟩; have hq := hidden_ h1; obtain ⟨hs, d1, d2, d3, d4⟩ := HR2.out _ (HF.out.1.below h1); clear h1 kf HR2))
              go_region
              obtain ⟨W3, e3⟩ : ∃ W3, (W2.setCell ⟨g, o + 1, none⟩ (.int .i64 T)).drew = W3 := ⟨_, rfl⟩
              have hF3 : FrAt B W3 f g A { s with ck := raised s i } := by rw [← e3]; exact hs.out.1.drewN 1
              have hO3 : Off B TF W2 W3 := by rw [← e3]; exact hs.out.2.drewN 1
              have d5 : W3.cell? ⟨g, o + 2, none⟩ = some (.slice a 0 c) := by
                have b3 := hF3.c2 _ HF.out.2
                dsimp only at b3
                rw [HL.out, HA.out, HO.out] at b3
                exact b3
              obtain ⟨a', c', W5, hap, hr, cq, fq⟩ := HK.out W3 hF3
              have hO4 := hidden_ hO3
              rw [e3]
              clear hF3 hO3 e3 d1 d2 d3 d4
              go_wp2_with (at_builtin; refine wpList_append_run rfl (.tmp 61) (.tmp 65) 53 rfl 53 rfl _ _ rfl rfl _ _ hap ?_)
              go_ret
              exact ⟨rfl, ⟨_, hr.out.1⟩, ((Off.of_below hq.out).trans hO4.out).trans hr.out.2⟩
            · obtain rfl : T = U := by omega
              obtain rfl : C = T := hlt
              clear eU
              go_enter Try.func9, Try.ntmps9
              go_upto_region 10 with (first
                | (go_at_call 23; refine kn.mono ?_; rintro e W1 ⟨rfl, h1⟩; obtain rfl := h1.symm; clear kn)
                | (go_at_call 24; refine kf.mono ?_; rintro e W2 ⟨rfl, h1⟩; have hq := hidden_ h1; obtain ⟨hs, d1, d2, d3, d4⟩ := HR2.out _ (HF.out.1.below h1); clear h1 kf HR2))
              go_region
              obtain ⟨W3, e3⟩ : ∃ W3, (W2.setCell ⟨g, o + 1, none⟩ (.int .i64 C)).drew = W3 := ⟨_, rfl⟩
              have hF3 : FrAt B W3 f g A { s with ck := raised s i } := by rw [← e3]; exact hs.out.1.drewN 1
              have hO3 : Off B TF W2 W3 := by rw [← e3]; exact hs.out.2.drewN 1
              have d5 : W3.cell? ⟨g, o + 2, none⟩ = some (.slice a 0 c) := by
                have b3 := hF3.c2 _ HF.out.2
                dsimp only at b3
                rw [HL.out, HA.out, HO.out] at b3
                exact b3
              obtain ⟨a', c', W5, hap, hr, cq, fq⟩ := HK.out W3 hF3
              have hO4 := hidden_ hO3
              rw [e3]
              clear hF3 hO3 e3 d1 d2 d3 d4
              go_wp2_with (at_builtin; refine wpList_append_run rfl (.tmp 61) (.tmp 65) 53 rfl 53 rfl _ _ rfl rfl _ _ hap ?_)
              go_ret
              exact ⟨rfl, ⟨_, hr.out.1⟩, ((Off.of_below hq.out).trans hO4.out).trans hr.out.2⟩
            · obtain rfl : C = U := by omega
              have n1 : ¬ C < T := by omega
              have n2 : ¬ C = T := by omega
              clear eU
              go_enter Try.func9, Try.ntmps9
              go_upto_region 10 with (first
                | (go_at_call 23; refine kn.mono ?_; rintro e W1 ⟨rfl, h1⟩; obtain rfl := h1.symm; clear kn)
                | (go_at_call 24; refine kf.mono ?_; rintro e W2 ⟨rfl, h1⟩; have hq := hidden_ h1; obtain ⟨hs, d1, d2, d3, d4⟩ := HR2.out _ (HF.out.1.below h1); clear h1 kf HR2))
              go_region
              obtain ⟨W3, e3⟩ : ∃ W3, (W2.setCell ⟨g, o + 1, none⟩ (.int .i64 C)).drew = W3 := ⟨_, rfl⟩
              have hF3 : FrAt B W3 f g A { s with ck := raised s i } := by rw [← e3]; exact hs.out.1.drewN 1
              have hO3 : Off B TF W2 W3 := by rw [← e3]; exact hs.out.2.drewN 1
              have d5 : W3.cell? ⟨g, o + 2, none⟩ = some (.slice a 0 c) := by
                have b3 := hF3.c2 _ HF.out.2
                dsimp only at b3
                rw [HL.out, HA.out, HO.out] at b3
                exact b3
              obtain ⟨a', c', W5, hap, hr, cq, fq⟩ := HK.out W3 hF3
              have hO4 := hidden_ hO3
              rw [e3]
              clear hF3 hO3 e3 d1 d2 d3 d4
              go_wp2_with (at_builtin; refine wpList_append_run rfl (.tmp 61) (.tmp 65) 53 rfl 53 rfl _ _ rfl rfl _ _ hap ?_)
              go_ret
              exact ⟨rfl, ⟨_, hr.out.1⟩, ((Off.of_below hq.out).trans hO4.out).trans hr.out.2⟩
          · have hne : ¬ rowOf s.L i = [] := fun e => hl0 (by rw [← HL.out, e]; rfl)
            have er : raised s i = s.ck := by unfold raised; rw [if_neg hne]
            have HS := hidden_ er
            have c2 : ∀ W, FrAt B W f g A s → W.cell? ⟨g, o + 2, none⟩ = some (.slice a l c) := fun W hW => by
              have b3 := hW.c2 _ HF.out.2
              rw [HL.out, HA.out, HO.out] at b3
              exact b3
            have hF2 : ∀ W, FrAt B W f g A s → FrAt B W f g A { s with ck := raised s i } := fun W hW => by rw [HS.out]; exact hW
            have HH := hidden_ (And.intro c2 hF2)
            clear hne er c2 hF2
            have hl0' : ¬ ((l : Int) = 0) := by omega
            clear k1 k2 t0 t1
            go_enter Try.func9, Try.ntmps9
            go_upto_region 11 with (first
              | (go_at_call 23; refine kn.mono ?_; rintro e W1 ⟨rfl, h1⟩; obtain rfl := h1.symm; clear kn)
              | (go_at_call 24; refine kf.mono ?_; rintro e W2 ⟨rfl, h1⟩; have hq := hidden_ h1; have c2 := HH.out.1 _ (HF.out.1.below h1); clear h1 kf))
            obtain ⟨a', c', W5, hap, hr, cq, fq⟩ := HK.out W2 (HH.out.2 _ (HF.out.1.below hq.out))
            go_wp2_with (at_builtin; refine wpList_append_run rfl (.tmp 61) (.tmp 65) 53 rfl 53 rfl _ _ rfl rfl _ _ hap ?_)
            go_ret
            exact ⟨rfl, ⟨_, hr.out.1⟩, (Off.of_below hq.out).trans hr.out.2⟩

end Go.Proofs.Ytkjmlbllpnehlaa
