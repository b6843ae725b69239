/- The document's Add. -/
import Derived.Test.YtkjmlbllpnehlaaRows
import Derived.Test.YtkjmlbllpnehlaaView
import Derived.Test.YtkjmlbllpnehlaaOwn
import Derived.Test.YtkjmlbllpnehlaaBase
import Derived.Test.YtkjmlbllpnehlaaFkZ
import Derived.Test.YtkjmlbllpnehlaaFkBy
import Derived.Test.YtkjmlbllpnehlaaFkAt
import Derived.Test.YtkjmlbllpnehlaaFkRd
import Derived.Test.YtkjmlbllpnehlaaRfAt
import Derived.Test.YtkjmlbllpnehlaaRfRd
import Derived.Test.YtkjmlbllpnehlaaFkNew
import Derived.WalkKit
import Derived.ProofKit
import Derived.OpenShut
import Derived.Below
import Derived.WalkLawsBesides
import Derived.Deep.QuietTactic
import Derived.BigQuiet
import Derived.Maps.AppendAt
import Derived.OwnWalk
import Derived.Deep.Cut
namespace Go.Proofs.Ytkjmlbllpnehlaa
set_option maxRecDepth 20000
open Go.ChangeShapes Go.WideShapes Go.ChangeAt Go.RowKit
set_option linter.unusedVariables false
set_option linter.unusedSimpArgs false

theorem RfAt.more {B : Nat} {w : World} {f : Nat} {p : Rp} {s : Fr} (h : RfAt B w f p s) (i : Nat) (hf : s.L.length ≤ 1000) (id co : Int) :
    ∃ a' c' W5, (Builtin.append_ #[45, 45] 45 #[.slice p.L.a s.L.length p.L.c, .slice (some ⟨w.heap.size, 0, none⟩) 1 1]).run Try.prog (w.alloc (.cells #[.int .i64 (i : Int), .int .i64 id, .int .i64 co] 47)) = .ok (.slice a' (s.L.length + 1) c') W5 ∧
      Hid (RfAt B (W5.setCell ⟨f, 2, none⟩ (.slice a' (s.L.length + 1) c')) f { p with L := ⟨a', c'⟩ } { s with L := s.L ++ [(⟨i, id, co⟩ : It)] } ∧ Off B TR w (W5.setCell ⟨f, 2, none⟩ (.slice a' (s.L.length + 1) c'))) ∧
      W5.cell? ⟨f, 2, none⟩ = some (.slice p.L.a s.L.length p.L.c) ∧ W5.frozen? ⟨f, 2, none⟩ = false := by
  have hb := below_new (Below.refl w.heap.size w) (.cells #[.int .i64 (i : Int), .int .i64 id, .int .i64 co] 47)
  have h2 := h.below hb
  have hlt := h.lt.2
  have e1 : (w.alloc (.cells #[.int .i64 (i : Int), .int .i64 id, .int .i64 co] 47)).heap[w.heap.size]? = some (.cells #[.int .i64 (i : Int), .int .i64 id, .int .i64 co] 47) := heap_alloc_new w _
  obtain ⟨a', c', W5, hr, ho, hbl, hoff, hnew⟩ := append_by knd_it (D := s.L) (E := [(⟨i, id, co⟩ : It)]) h2.own (Nat.le_trans hlt hb.size) ⟨w.heap.size, 0, none⟩ 1 1 rfl (fun j u hj => by
    have hj2 : j < 3 := by have := (List.getElem?_eq_some_iff.1 hj).1; simpa [byF, itF] using this
    rcases (show j = 0 ∨ j = 1 ∨ j = 2 by omega) with rfl | rfl | rfl
    · have : u = .int .i64 (i : Int) := by simpa [byF, itF] using hj.symm
      rw [this, add_zero_at]
      unfold World.cell?
      rw [e1]
      rfl
    · have : u = .int .i64 id := by simpa [byF, itF] using hj.symm
      rw [this, add_zero_at]
      unfold World.cell?
      rw [e1]
      rfl
    · have : u = .int .i64 co := by simpa [byF, itF] using hj.symm
      rw [this, add_zero_at]
      unfold World.cell?
      rw [e1]
      rfl) (by omega) (by omega) 45
  have hlen : (s.L ++ [(⟨i, id, co⟩ : It)]).length = s.L.length + 1 := by simp
  rw [← hlen] at ho
  have hoff2 : OffS B (fun _ => false) (blkOf p.L.a) w W5 := (OffS.of_below hb).trans hoff (fun _ x => .inl x)
  obtain ⟨a1, a2, a3, a4⟩ := h.setL hoff2 (x := ⟨a', c'⟩) ho
  rw [hlen] at a1 a2
  exact ⟨a', c', W5, hr, ⟨a1, h.offTR a2⟩, a3, a4⟩
set_option maxHeartbeats 4000000 in
theorem radd_call {B : Nat} {w : World} {f : Nat} {p : Rp} {s : Fr} (h : RfAt B w f p s) {k : Nat} (hk : FrOk k s) (hk1 : k ≤ 1000000) (hlen : s.L.length ≤ 1000) (z id co : Int) : Calls Try.prog 10 #[.pointer (some ⟨f, 0, none⟩), .int .i64 z, .int .i64 id, .int .i64 co] w fun e w' => e = .returned (.int .i64 (addE s z id co)) ∧ (∃ p', RfAt B w' f p' (addS s z id co)) ∧ Off B TR w w' := by
  have ki := ris_call h hk.n4 z
  have ka := rat_call h id
  have kw : ∀ W, W = w → Calls Try.prog 16 #[.pointer (some ⟨f, 0, none⟩), .int .i64 z] W fun e w' => e = .returned (.int .i64 (waitZ s z : Int)) ∧ w' = W := fun W e => by rw [e]; exact rwaiting_call h hk z
  cases hn : numB s z with
  | false =>
    have e : addE s z id co = 20 := by unfold addE; rw [if_pos (.inl hn)]
    have e2 : addS s z id co = s := by unfold addS; rw [if_neg (by rw [e]; decide)]
    rw [hn] at ki
    rw [e, e2]
    have HF := hidden_ h
    clear e e2 hn h hk ka kw
    go_enter Try.func10, Try.ntmps10
    go_wp2_with (go_at_call 25; refine ki.mono ?_; rintro e W1 ⟨rfl, h1⟩; obtain rfl := h1.symm)
    go_ret
    exact ⟨rfl, ⟨_, HF.out⟩, Off.refl _ _ _⟩
  | true =>
    obtain ⟨z0, z1, z2, z3⟩ := num_nat hn
    rw [hn] at ki
    by_cases hc : co < 1 ∨ 10000 < co
    · have e : addE s z id co = 20 := by unfold addE; rw [if_pos (.inr hc)]
      have e2 : addS s z id co = s := by unfold addS; rw [if_neg (by rw [e]; decide)]
      rw [e, e2]
      have HF := hidden_ h
      clear e e2 hn h hk z0 z1 z2 z3 ka kw
      rcases hc with hc | hc
      · go_enter Try.func10, Try.ntmps10
        go_wp2_with (go_at_call 25; refine ki.mono ?_; rintro e W1 ⟨rfl, h1⟩; obtain rfl := h1.symm)
        go_ret
        exact ⟨rfl, ⟨_, HF.out⟩, Off.refl _ _ _⟩
      · have hc2 : ¬ co < 1 := by omega
        go_enter Try.func10, Try.ntmps10
        go_wp2_with (go_at_call 25; refine ki.mono ?_; rintro e W1 ⟨rfl, h1⟩; obtain rfl := h1.symm)
        go_ret
        exact ⟨rfl, ⟨_, HF.out⟩, Off.refl _ _ _⟩
    · have hc1 : ¬ co < 1 := fun x => hc (.inl x)
      have hc2 : ¬ 10000 < co := fun x => hc (.inr x)
      have f1 : ¬ (numB s z = false ∨ co < 1 ∨ 10000 < co) := fun x => x.elim (fun y => by rw [hn] at y; cases y) hc
      cases hb : hasB s.L id with
      | true =>
        have e : addE s z id co = 26 := by unfold addE; rw [if_neg f1, if_pos hb]
        have e2 : addS s z id co = s := by unfold addS; rw [if_neg (by rw [e]; decide)]
        obtain ⟨K, hK, hpl, -⟩ := pl_yes hb
        rw [hpl] at ka
        have hK0 : (0 : Int) ≤ (K : Int) := by omega
        rw [e, e2]
        have HF := hidden_ h
        clear e e2 hn h hk z0 z1 z2 z3 kw hb f1 hc hpl hK
        go_enter Try.func10, Try.ntmps10
        go_wp2_with (first
          | (go_at_call 25; refine ki.mono ?_; rintro e W1 ⟨rfl, h1⟩; obtain rfl := h1.symm; clear ki)
          | (go_at_call 26; refine ka.mono ?_; rintro e W1 ⟨rfl, h1⟩; obtain rfl := h1.symm; clear ka))
        go_ret
        exact ⟨rfl, ⟨_, HF.out⟩, Off.refl _ _ _⟩
      | false =>
        rw [pl_no hb] at ka
        have f2 : ¬ hasB s.L id = true := by rw [hb]; decide
        have ew : waitZ s z = (rowOf s.L z.toNat).length := by unfold waitZ; rw [if_pos hn]
        rw [ew] at kw
        by_cases hl : 16 ≤ (rowOf s.L z.toNat).length
        · have e : addE s z id co = 5 := by unfold addE; rw [if_neg f1, if_neg f2, if_pos hl]
          have e2 : addS s z id co = s := by unfold addS; rw [if_neg (by rw [e]; decide)]
          rw [e, e2]
          have HF := hidden_ h
          obtain ⟨l, el⟩ : ∃ l, (rowOf s.L z.toNat).length = l := ⟨_, rfl⟩
          rw [el] at hl kw
          clear e e2 hn h hk z0 z1 z2 z3 hb f1 hc el f2 ew
          go_enter Try.func10, Try.ntmps10
          go_wp2_with (first
            | (go_at_call 25; refine ki.mono ?_; rintro e W1 ⟨rfl, h1⟩; obtain rfl := h1.symm; clear ki)
            | (go_at_call 26; refine ka.mono ?_; rintro e W1 ⟨rfl, h1⟩; obtain rfl := h1.symm; clear ka)
            | (go_at_call 16; refine (kw _ rfl).mono ?_; rintro e W1 ⟨rfl, h1⟩; obtain rfl := h1.symm))
          go_ret
          exact ⟨rfl, ⟨_, HF.out⟩, Off.refl _ _ _⟩
        · have e : addE s z id co = 0 := by unfold addE; rw [if_neg f1, if_neg f2, if_neg hl]
          have e2 : addS s z id co = { s with ck := raised s z.toNat, L := s.L ++ [(⟨z.toNat, id, co⟩ : It)] } := by unfold addS; rw [if_pos e]
          rw [e, e2]
          obtain ⟨i, ei⟩ : ∃ i, z.toNat = i := ⟨_, rfl⟩
          rw [ei] at hl z2 z3 kw ⊢
          subst z3
          obtain ⟨k1, k2⟩ := hk.ck i z2
          have t0 := hk.tm0
          have t1 := hk.tm1
          have kb : (k : Int) * 7207200000 ≤ 7207200000000000 := by omega
          replace k2 := Int.le_trans k2 kb
          replace t1 := Int.le_trans t1 kb
          have HK := hidden_ (fun (W : World) (hF : RfAt B W f p { s with ck := raised s i }) => hF.more i (by exact hlen) id co)
          have HF := hidden_ (And.intro h z2)
          obtain ⟨l, el⟩ : ∃ l, (rowOf s.L i).length = l := ⟨_, rfl⟩
          rw [el] at hl kw
          have HL := hidden_ el
          obtain ⟨C, eC⟩ : ∃ C, s.ck i = C := ⟨_, rfl⟩
          obtain ⟨T, eT⟩ : ∃ T, s.tm = T := ⟨_, rfl⟩
          rw [eC] at k1 k2
          rw [eT] at t0 t1
          have HC := hidden_ (And.intro eC eT)
          obtain ⟨⟨a, c⟩, eA⟩ : ∃ q, p.L = q := ⟨_, rfl⟩
          obtain ⟨n, en⟩ : ∃ n, s.L.length = n := ⟨_, rfl⟩
          have HE := hidden_ (And.intro eA en)
          have t2 := h.t2
          rw [eA, en] at t2
          dsimp only at t2
          have t3 := h.t3
          rw [eT] at t3
          have tC := h.t1
          have cC := h.c0 i z2
          rw [eC] at cC
          obtain ⟨m, em⟩ : ∃ m, s.n = m := ⟨_, rfl⟩
          rw [em] at tC
          have him : (i : Int) < (m : Int) := by omega
          have him2 : i < m := by omega
          obtain ⟨X, eX⟩ : ∃ X : Addr, X = ⟨p.gC, 0, none⟩ := ⟨_, rfl⟩
          obtain ⟨P, eP⟩ : ∃ P, X.add i = P := ⟨_, rfl⟩
          have e' : P = ⟨p.gC, i, none⟩ := by rw [← eP, eX, add_zero_at]
          rw [← e'] at cC
          rw [← eX] at tC
          have HP := hidden_ e'
          have hl16 : l ≤ 16 := by omega
          have hl' : ¬ (16 : Int) ≤ (l : Int) := by omega
          have hnn : n ≤ 1000 := by omega
          clear e e2 hn hk z0 z1 ei hb f1 hc el f2 eA eC eT hl z2 kb ew en em eX e' hlen
          by_cases hl0 : l = 0
          · subst hl0
            have hrow : rowOf s.L i = [] := List.eq_nil_of_length_eq_zero HL.out
            have hR2 : Hid (RfAt B (w.setCell P (.int .i64 (max C T))) f p { s with ck := raised s i } ∧ Off B TR w (w.setCell P (.int .i64 (max C T)))) ∧ w.cell? P = some (.int .i64 C) ∧ w.cell? ⟨f, 3, none⟩ = some (.int .i64 T) ∧ w.frozen? P = false ∧ w.cell? ⟨f, 2, none⟩ = some (.slice a n c) := by
              obtain ⟨a1, a2⟩ := h.setCk HF.out.2 (max C T)
              have er : raised s i = upd s.ck i (max C T) := by unfold raised; rw [if_pos hrow, HC.out.1, HC.out.2]
              obtain ⟨mC, rC⟩ := h.rC
              rw [er]
              exact ⟨by rw [HP.out]; exact ⟨a1, a2⟩, cC, t3, by rw [HP.out]; exact rC.open_ _, t2⟩
            clear hrow h cC t3 t2
            have cases3 : C < T ∨ C = T ∨ T < C := by omega
            obtain ⟨U, eU⟩ : ∃ U, max C T = U := ⟨_, rfl⟩
            rw [eU] at hR2
            obtain ⟨hs, d1, d2, d3, d4⟩ := hR2
            rcases cases3 with hlt | hlt | hlt
            · obtain rfl : T = U := by omega
              have n1 : ¬ T < C := by omega
              have n2 : ¬ C = T := by omega
              clear eU
              go_enter Try.func10, Try.ntmps10
              go_upto_region 8 with (first
                | (go_at_call 25; refine ki.mono ?_; rintro e W1 ⟨rfl, h1⟩; obtain rfl := h1.symm; clear ki)
                | (go_at_call 26; refine ka.mono ?_; rintro e W1 ⟨rfl, h1⟩; obtain rfl := h1.symm; clear ka)
                | (go_at_call 16; refine (kw _ rfl).mono ?_; rintro e W1 ⟨rfl, h1⟩; obtain rfl := h1.symm))
              clear kw
              go_region
              obtain ⟨W3, e3⟩ : ∃ W3, (w.setCell P (.int .i64 T)).drew = W3 := ⟨_, rfl⟩
              have hF3 : RfAt B W3 f p { s with ck := raised s i } := by rw [← e3]; exact hs.out.1.drewN 1
              have hO3 : Off B TR w W3 := by rw [← e3]; exact hs.out.2.drewN 1
              have d5 := hF3.t2
              obtain ⟨a', c', W5, hap, hr, cq, fq⟩ := HK.out W3 hF3
              have hO4 := hidden_ hO3
              dsimp only at d5 hap cq
              rw [HE.out.1] at d5 hap cq
              rw [HE.out.2] at d5 hap cq hr
              rw [e3]
              clear hF3 hO3 e3 d1 d2 d3 d4
              go_wp2_with (at_builtin; refine wpList_append_run rfl (.tmp 58) (.tmp 63) 45 rfl 45 rfl _ _ rfl rfl _ _ hap ?_)
              go_ret
              exact ⟨rfl, ⟨_, hr.out.1⟩, hO4.out.trans hr.out.2⟩
            · obtain rfl : T = U := by omega
              obtain rfl : C = T := hlt
              clear eU
              go_enter Try.func10, Try.ntmps10
              go_upto_region 8 with (first
                | (go_at_call 25; refine ki.mono ?_; rintro e W1 ⟨rfl, h1⟩; obtain rfl := h1.symm; clear ki)
                | (go_at_call 26; refine ka.mono ?_; rintro e W1 ⟨rfl, h1⟩; obtain rfl := h1.symm; clear ka)
                | (go_at_call 16; refine (kw _ rfl).mono ?_; rintro e W1 ⟨rfl, h1⟩; obtain rfl := h1.symm))
              clear kw
              go_region
              obtain ⟨W3, e3⟩ : ∃ W3, (w.setCell P (.int .i64 C)).drew = W3 := ⟨_, rfl⟩
              have hF3 : RfAt B W3 f p { s with ck := raised s i } := by rw [← e3]; exact hs.out.1.drewN 1
              have hO3 : Off B TR w W3 := by rw [← e3]; exact hs.out.2.drewN 1
              have d5 := hF3.t2
              obtain ⟨a', c', W5, hap, hr, cq, fq⟩ := HK.out W3 hF3
              have hO4 := hidden_ hO3
              dsimp only at d5 hap cq
              rw [HE.out.1] at d5 hap cq
              rw [HE.out.2] at d5 hap cq hr
              rw [e3]
              clear hF3 hO3 e3 d1 d2 d3 d4
              go_wp2_with (at_builtin; refine wpList_append_run rfl (.tmp 58) (.tmp 63) 45 rfl 45 rfl _ _ rfl rfl _ _ hap ?_)
              go_ret
              exact ⟨rfl, ⟨_, hr.out.1⟩, hO4.out.trans hr.out.2⟩
            · obtain rfl : C = U := by omega
              have n1 : ¬ C < T := by omega
              have n2 : ¬ C = T := by omega
              clear eU
              go_enter Try.func10, Try.ntmps10
              go_upto_region 8 with (first
                | (go_at_call 25; refine ki.mono ?_; rintro e W1 ⟨rfl, h1⟩; obtain rfl := h1.symm; clear ki)
                | (go_at_call 26; refine ka.mono ?_; rintro e W1 ⟨rfl, h1⟩; obtain rfl := h1.symm; clear ka)
                | (go_at_call 16; refine (kw _ rfl).mono ?_; rintro e W1 ⟨rfl, h1⟩; obtain rfl := h1.symm))
              clear kw
              go_region
              obtain ⟨W3, e3⟩ : ∃ W3, (w.setCell P (.int .i64 C)).drew = W3 := ⟨_, rfl⟩
              have hF3 : RfAt B W3 f p { s with ck := raised s i } := by rw [← e3]; exact hs.out.1.drewN 1
              have hO3 : Off B TR w W3 := by rw [← e3]; exact hs.out.2.drewN 1
              have d5 := hF3.t2
              obtain ⟨a', c', W5, hap, hr, cq, fq⟩ := HK.out W3 hF3
              have hO4 := hidden_ hO3
              dsimp only at d5 hap cq
              rw [HE.out.1] at d5 hap cq
              rw [HE.out.2] at d5 hap cq hr
              rw [e3]
              clear hF3 hO3 e3 d1 d2 d3 d4
              go_wp2_with (at_builtin; refine wpList_append_run rfl (.tmp 58) (.tmp 63) 45 rfl 45 rfl _ _ rfl rfl _ _ hap ?_)
              go_ret
              exact ⟨rfl, ⟨_, hr.out.1⟩, hO4.out.trans hr.out.2⟩
          · have hne : ¬ rowOf s.L i = [] := fun e => hl0 (by rw [← HL.out, e]; rfl)
            have er : raised s i = s.ck := by unfold raised; rw [if_neg hne]
            obtain ⟨a', c', W5, hap, hr, cq, fq⟩ := HK.out w (by rw [er]; exact h)
            dsimp only at hap cq
            rw [HE.out.1] at hap cq
            rw [HE.out.2] at hap cq hr
            dsimp only at hap cq
            have hl0' : ¬ ((l : Int) = 0) := by omega
            clear hne er h cC t3 k1 k2 t0 t1 tC
            go_enter Try.func10, Try.ntmps10
            go_upto_region 9 with (first
              | (go_at_call 25; refine ki.mono ?_; rintro e W1 ⟨rfl, h1⟩; obtain rfl := h1.symm; clear ki)
              | (go_at_call 26; refine ka.mono ?_; rintro e W1 ⟨rfl, h1⟩; obtain rfl := h1.symm; clear ka)
              | (go_at_call 16; refine (kw _ rfl).mono ?_; rintro e W1 ⟨rfl, h1⟩; obtain rfl := h1.symm))
            clear kw
            go_wp2_with (at_builtin; refine wpList_append_run rfl (.tmp 58) (.tmp 63) 45 rfl 45 rfl _ _ rfl rfl _ _ hap ?_)
            go_ret
            exact ⟨rfl, ⟨_, hr.out.1⟩, hr.out.2⟩

end Go.Proofs.Ytkjmlbllpnehlaa
