/- The document's Next. -/
import Derived.Test.YtkjmlbllpnehlaaRows
import Derived.Test.YtkjmlbllpnehlaaView
import Derived.Test.YtkjmlbllpnehlaaOwn
import Derived.Test.YtkjmlbllpnehlaaBase
import Derived.Test.YtkjmlbllpnehlaaFkZ
import Derived.Test.YtkjmlbllpnehlaaFkBy
import Derived.Test.YtkjmlbllpnehlaaFkAt
import Derived.Test.YtkjmlbllpnehlaaFkRd
import Derived.Test.YtkjmlbllpnehlaaRfAt
import Derived.Test.YtkjmlbllpnehlaaRfRd
import Derived.Test.YtkjmlbllpnehlaaRfOut
import Derived.Test.YtkjmlbllpnehlaaFkNew
import Derived.Test.YtkjmlbllpnehlaaFkNext
import Derived.WalkKit
import Derived.ProofKit
import Derived.OpenShut
import Derived.Below
import Derived.WalkLawsBesides
import Derived.Deep.QuietTactic
import Derived.BigQuiet
import Derived.Maps.AppendAt
import Derived.OwnWalk
import Derived.Deep.Cut
namespace Go.Proofs.Ytkjmlbllpnehlaa
set_option maxRecDepth 20000
open Go.ChangeShapes Go.WideShapes Go.ChangeAt Go.RowKit
set_option linter.unusedVariables false
set_option linter.unusedSimpArgs false

def bestZ : Option Nat → Int
  | none => -1
  | some b => (b : Int)
/-- the first of a tenant in the list -/
theorem first_of {L : List It} {b : Nat} {x : It} (h : (rowOf L b).head? = some x) : ∃ K, ∃ hK : K < L.length, L[K] = x ∧ ∀ j (hj : j < K), L[j].t ≠ b := by
  induction L with
  | nil => cases h
  | cons y r ih =>
    by_cases e : y.t = b
    · have : y = x := by simpa [rowOf, List.filter_cons, e] using h
      exact ⟨0, by simp, by simpa using this, fun j hj => by omega⟩
    · have : (rowOf r b).head? = some x := by simpa [rowOf, List.filter_cons, e] using h
      obtain ⟨K, hK, h1, h2⟩ := ih this
      refine ⟨K + 1, by simpa using hK, by simpa using h1, fun j hj => ?_⟩
      cases j with
      | zero => simpa using e
      | succ j => simpa using h2 j (by omega)
set_option maxHeartbeats 4000000 in
theorem rnext_call {B : Nat} {w : World} {f : Nat} {p : Rp} {s : Fr} (h : RfAt B w f p s) {k : Nat} (hk : FrOk k s) (hk1 : k ≤ 1000000) (hlen : s.L.length ≤ 1000) : Calls Try.prog 12 #[.pointer (some ⟨f, 0, none⟩)] w fun e w' => e = .returned (nextV (nextO s)) ∧ (∃ p', RfAt B w' f p' (nextS s)) ∧ Off B TR w w' := by
  have HH := hidden_ h
  have HK := hidden_ hk
  obtain ⟨X, eX⟩ : ∃ X : Addr, X = ⟨p.gC, 0, none⟩ := ⟨_, rfl⟩
  obtain ⟨Y, eY⟩ : ∃ Y : Addr, Y = ⟨p.gW, 0, none⟩ := ⟨_, rfl⟩
  obtain ⟨⟨a, c⟩, eA⟩ : ∃ q, p.L = q := ⟨_, rfl⟩
  obtain ⟨l, el⟩ : ∃ l, s.L.length = l := ⟨_, rfl⟩
  obtain ⟨n, en⟩ : ∃ n, s.n = n := ⟨_, rfl⟩
  obtain ⟨cW, ecW⟩ : ∃ q, p.cW = q := ⟨_, rfl⟩
  obtain ⟨cC, ecC⟩ : ∃ q, p.cC = q := ⟨_, rfl⟩
  have HE := hidden_ (And.intro eX (And.intro eY (And.intro eA (And.intro el (And.intro en (And.intro ecW ecC))))))
  have hn4 : n ≤ 4 := by rw [← en]; exact hk.n4
  have HT : Hid (∀ m : Nat, (w.drewN m).cell? ⟨f, 0, none⟩ = some (.slice (some Y) n cW) ∧ (w.drewN m).cell? ⟨f, 1, none⟩ = some (.slice (some X) n cC) ∧ (w.drewN m).cell? ⟨f, 2, none⟩ = some (.slice a l c)) := fun m => by
    have t0 := h.t0
    have t1 := h.t1
    have t2 := h.t2
    rw [← eY, en, ecW] at t0
    rw [← eX, en, ecC] at t1
    rw [eA, el] at t2
    exact ⟨t0, t1, t2⟩
  rw [el] at hlen
  clear eX eY eA el en ecW ecC h hk
  go_enter Try.func12, Try.ntmps12
  go_wp2
  go_loopw [5, 6] (fun q i wr => ∃ k : Nat, k ≤ n ∧ i = .int .i64 k ∧ q = .int .i64 (bestZ (bestTo s k)) ∧ Hid (∃ m, wr = w.drewN m)) (fun _ i _ => n - (intOf i).toNat)
  case atStart => exact ⟨0, Nat.zero_le _, rfl, rfl, ⟨0, rfl⟩⟩
  case round =>
    obtain ⟨k, hk, rfl, rfl, hw⟩ := hrel
    obtain ⟨m, hm0⟩ := hw.out
    have hm := hidden_ hm0
    have HW : Hid (RfAt B wr f p s) := by rw [hm0]; exact HH.out.drewN m
    obtain ⟨t0, t1, t2⟩ := HT.out m
    rw [← hm0] at t0 t1 t2
    clear hm0
    by_cases hlt : k < n
    · have hlt' : (k : Int) < (n : Int) := by omega
      have hkn : k < s.n := by rw [HE.out.2.2.2.2.1]; exact hlt
      have ew : waitZ s (k : Int) = (rowOf s.L k).length := by
        unfold waitZ
        rw [if_pos (by simp [numB]; omega), Int.toNat_natCast]
      have kw := fun m' => rwaiting_call (HW.out.drewN m') HK.out (k : Int)
      rw [ew] at kw
      have c1 : wr.cell? (X.add k) = some (.int .i64 (s.ck k)) := by rw [HE.out.1, add_zero_at]; exact HW.out.c0 k hkn
      have cb : ∀ b, bestTo s k = some b → wr.cell? (X.add b) = some (.int .i64 (s.ck b)) := fun b hb => by rw [HE.out.1, add_zero_at]; exact HW.out.c0 b (by have := (best_lt hb).1; omega)
      have cbn : ∀ b, bestTo s k = some b → b < n := fun b hb => by have := (best_lt hb).1; omega
      obtain ⟨P, eP⟩ : ∃ P, X.add k = P := ⟨_, rfl⟩
      rw [eP] at c1
      have step := show bestTo s (k + 1) = if rowOf s.L k ≠ [] ∧ (∀ b, bestTo s k = some b → s.ck k < s.ck b) then some k else bestTo s k from rfl
      obtain ⟨O, eO⟩ : ∃ O, bestTo s k = O := ⟨_, rfl⟩
      rw [eO] at step cb cbn ⊢
      have STEP := hidden_ step
      obtain ⟨r, er⟩ : ∃ r, (rowOf s.L k).length = r := ⟨_, rfl⟩
      rw [er] at kw
      have HR := hidden_ er
      have c1m := c1
      clear step eO er ew hkn hw
      by_cases hl : 0 < r
      · have hl' : decide (0 < r) = true := by simp [hl]
        have hlI : decide ((0 : Int) < (r : Int)) = true := by simp [hl]
        have hlJ : (0 : Int) < (r : Int) := by omega
        have hne : rowOf s.L k ≠ [] := by
          intro e
          have := HR.out
          rw [e] at this
          simp at this
          omega
        cases O with
        | none =>
          have st := STEP.out
          rw [if_pos ⟨hne, fun b hb => by cases hb⟩] at st
          have ST := hidden_ st
          clear st STEP cb hne cbn
          dsimp only [bestZ]
          go_wp2
          go_quiet (first | (go_at_call 16; exact Calls.quiet_of_same (kw _)))
          go_wp2
          go_roundw
          case rel => exact ⟨k + 1, by omega, by go_num, by first | rw [ST.out] | (rw [ST.out]; rfl), ⟨_, by rw [hm.out]; exact World.drewN_drewN _ _ _⟩⟩
          case measure => simp [intOf]; omega
        | some b =>
          have c3 := cb b rfl
          have hbn := cbn b rfl
          have hbn' : (b : Int) < (n : Int) := by omega
          have hb0 : ¬ (b : Int) < 0 := by omega
          have hb0' : decide ((b : Int) < 0) = false := by simp
          obtain ⟨u, eu⟩ : ∃ u, s.ck k = u := ⟨_, rfl⟩
          obtain ⟨v, ev⟩ : ∃ v, s.ck b = v := ⟨_, rfl⟩
          rw [eu] at c1m
          rw [ev] at c3
          by_cases hc : u < v
          · have st := STEP.out
            rw [if_pos ⟨hne, fun b' hb => by obtain rfl := Option.some.inj hb; rw [eu, ev]; exact hc⟩] at st
            have ST := hidden_ st
            have hc' : decide (u < v) = true := by simp [hc]
            clear st STEP cb hne eu ev cbn c1
            dsimp only [bestZ]
            go_wp2
            go_quiet (first | (go_at_call 16; exact Calls.quiet_of_same (kw _)))
            go_wp2
            go_roundw
            case rel => exact ⟨k + 1, by omega, by go_num, by first | rw [ST.out] | (rw [ST.out]; rfl), ⟨_, by rw [hm.out]; exact World.drewN_drewN _ _ _⟩⟩
            case measure => simp [intOf]; omega
          · have st := STEP.out
            rw [if_neg (fun x => by have := x.2 b rfl; rw [eu, ev] at this; exact hc this)] at st
            have ST := hidden_ st
            have hc' : decide (u < v) = false := by simp; omega
            clear st STEP cb hne eu ev cbn c1
            dsimp only [bestZ]
            go_wp2
            go_quiet (first | (go_at_call 16; exact Calls.quiet_of_same (kw _)))
            go_wp2
            go_roundw
            case rel => exact ⟨k + 1, by omega, by go_num, by first | rw [ST.out] | (rw [ST.out]; rfl), ⟨_, by rw [hm.out]; exact World.drewN_drewN _ _ _⟩⟩
            case measure => simp [intOf]; omega
      · have hl' : decide (0 < r) = false := by simp; omega
        obtain rfl : r = 0 := by omega
        have st := STEP.out
        rw [if_neg (fun x => x.1 (List.eq_nil_of_length_eq_zero HR.out))] at st
        have ST := hidden_ st
        obtain ⟨Q, eQ⟩ : ∃ Q, bestZ O = Q := ⟨_, rfl⟩
        rw [eQ]
        have EQ := hidden_ eQ
        clear st STEP cb eQ cbn
        go_wp2
        go_quiet (first | (go_at_call 16; exact Calls.quiet_of_same (kw _)))
        go_wp2
        go_roundw
        case rel => exact ⟨k + 1, by omega, by go_num, by rw [ST.out, EQ.out], ⟨_, by rw [hm.out]; exact World.drewN_drewN _ _ _⟩⟩
        case measure => simp [intOf]; omega
    · have e : k = n := by omega
      have hkn : ¬ (k : Int) < (n : Int) := by omega
      have eB : bestTo s k = bestTo s s.n := by rw [e, HE.out.2.2.2.2.1]
      rw [eB]
      clear e hk hlt eB
      have hll : l ≤ 9223372036854775807 := by omega
      cases hx : nextO s with
      | none =>
        rw [nextO_none.1 hx]
        have en : nextS s = s := by unfold nextS; rw [hx]
        have HX := hidden_ (And.intro hx en)
        dsimp only [bestZ]
        clear hx en
        go_wp2
        rename World => W00
        go_loopw [7] (fun i wr2 => ∃ j : Nat, j ≤ l ∧ i = .int .i64 j ∧ wr2 = W00) (fun i _ => l - (intOf i).toNat)
        case atStart => exact ⟨0, Nat.zero_le _, rfl, rfl⟩
        case round =>
          obtain ⟨j, hj, rfl, hw2⟩ := hrel
          subst hw2
          by_cases hjl : j < l
          · have hlt' : j < s.L.length := by rw [HE.out.2.2.2.1]; exact hjl
            obtain ⟨y, e1, c1, -⟩ := HW.out.cells hlt'
            rw [HE.out.2.2.1] at e1
            dsimp only at e1
            have hx0 : (0 : Int) ≤ (s.L[j].t : Int) := by omega
            obtain ⟨T, eT⟩ : ∃ T : Int, (s.L[j].t : Int) = T := ⟨_, rfl⟩
            rw [eT] at c1 hx0
            obtain ⟨Z, eZ⟩ : ∃ Z : Addr, Z = ⟨y, 0, none⟩ := ⟨_, rfl⟩
            obtain ⟨P, eP⟩ : ∃ P, Z.add (j * 3) = P := ⟨_, rfl⟩
            have e' : P = ⟨y, j * 3, none⟩ := by rw [← eP, eZ, add_zero_at]
            have c1' : wr.cell? P = some (.int .i64 T) := by rw [e']; exact c1
            have c1'' : wr.cell? ⟨P.block, P.off, none⟩ = some (.int .i64 T) := by rw [e']; exact c1
            rw [← eZ] at e1
            subst e1
            have q : (T == (-1 : Int)) = false := by simp; omega
            clear c1 eT e' eZ hlt'
            go_wp2
            go_roundw
            case rel => exact ⟨j + 1, by omega, by go_num, trivial⟩
            case measure => simp [intOf]; omega
          · have e : j = l := by omega
            subst e
            go_wp2
            refine bodyPost_ret (v := .tuple #[.int .i64 0, .int .i64 0, .bool false]) (by simp [results, Try.results12, go_sem]) rfl ?_
            exact ⟨by rw [HX.out.1]; rfl, ⟨_, by rw [HX.out.2]; exact HW.out⟩, by rw [hm.out]; exact (Off.refl _ _ _).drewN m⟩
      | some x =>
        obtain ⟨hxL, hbest, hhead⟩ := nextO_mem hx
        rw [hbest]
        obtain ⟨K, hK, hKx, hKn⟩ := first_of hhead
        have hbn : x.t < s.n := (HK.out.it x hxL).1
        have hS := hidden_ (show nextS s = { s with tm := s.ck x.t, ck := upd s.ck x.t (s.ck x.t + tick x.co (s.wt x.t)), L := outL s.L x.id } by unfold nextS; rw [hx])
        have hO : outL s.L x.id = s.L.eraseIdx K := by rw [← hKx]; exact out_at HK.out.nd hK
        have hO2 := hidden_ hO
        have hK2 : K < l := by rw [← HE.out.2.2.2.1]; exact hK
        obtain ⟨-, c1', c2', -⟩ := HK.out.it x hxL
        obtain ⟨w1, w2⟩ := HK.out.wt x.t hbn
        obtain ⟨k1, k2⟩ := HK.out.ck x.t hbn
        obtain ⟨t1', t2', -, q1, q2, q3, -⟩ := tick_ok c1' c2' w1 w2
        have hck := Int.le_trans k2 (show (_ : Int) * 7207200000 ≤ 7207200000000000 by omega)
        have HKn := hidden_ (And.intro hKn (And.intro hKx hbn))
        have HX := hidden_ hx
        dsimp only [bestZ]
        obtain ⟨b, eb⟩ : ∃ b, x.t = b := ⟨_, rfl⟩
        have EB := hidden_ eb
        obtain ⟨V, eV⟩ : ∃ V, s.wt x.t = V := ⟨_, rfl⟩
        obtain ⟨C, eC⟩ : ∃ C, s.ck x.t = C := ⟨_, rfl⟩
        obtain ⟨co, eco⟩ : ∃ co, x.co = co := ⟨_, rfl⟩
        obtain ⟨id, eid⟩ : ∃ id, x.id = id := ⟨_, rfl⟩
        unfold tick at t1' t2'
        rw [eV] at w1 w2 q1 q2 q3 t1' t2'
        rw [eC] at k1 k2 hck
        rw [eco] at c1' c2' t1' t2'
        rw [eb]
        have EV := hidden_ (And.intro eV (And.intro eC (And.intro eco eid)))
        have hbn2 : b < n := by rw [← eb, ← HE.out.2.2.2.2.1]; exact hbn
        have hbn3 : (b : Int) < (n : Int) := by omega
        clear hx hxL hbest hhead hKn hKx hbn hO k2 eb eV eC eco eid
        obtain ⟨Q, eQ⟩ : ∃ Q, 720720 / V = Q := ⟨_, rfl⟩
        rw [eQ] at q1 q2 q3 t1' t2'
        obtain ⟨T, eT⟩ : ∃ T, co * Q = T := ⟨_, rfl⟩
        rw [eT] at t1' t2'
        have ET := hidden_ (show tick co V = T by unfold tick; rw [eQ, eT])
        have u3 : C + T ≤ 7207300000000000 := by omega
        have u4 : 0 ≤ C + T := by omega
        have hV : ¬ V = 0 := by omega
        clear eQ hck w1 w2
        go_wp2
        rename World => W00
        go_loopw [7] (fun i wr2 => ∃ j : Nat, j ≤ K ∧ i = .int .i64 j ∧ wr2 = W00) (fun i _ => l - (intOf i).toNat)
        case atStart => exact ⟨0, Nat.zero_le _, rfl, rfl⟩
        case round =>
          obtain ⟨j, hj, rfl, hw2⟩ := hrel
          subst hw2
          have hjl : j < l := by omega
          have hlt' : j < s.L.length := by rw [HE.out.2.2.2.1]; exact hjl
          obtain ⟨y, e1, c1, d1, d2, -⟩ := HW.out.cells hlt'
          rw [HE.out.2.2.1] at e1
          dsimp only at e1
          obtain ⟨Z, eZ⟩ : ∃ Z : Addr, Z = ⟨y, 0, none⟩ := ⟨_, rfl⟩
          obtain ⟨P, eP⟩ : ∃ P, Z.add (j * 3) = P := ⟨_, rfl⟩
          have e' : P = ⟨y, j * 3, none⟩ := by rw [← eP, eZ, add_zero_at]
          by_cases ej : j = K
          · subst ej
            rw [HKn.out.2.1, EB.out] at c1
            rw [HKn.out.2.1, EV.out.2.2.2] at d1
            rw [HKn.out.2.1, EV.out.2.2.1] at d2
            have g0 : wr.cell? P = some (.int .i64 (b : Int)) := by rw [e']; exact c1
            have g0' : wr.cell? ⟨P.block, P.off, none⟩ = some (.int .i64 (b : Int)) := by rw [e']; exact c1
            have g1 : wr.cell? ⟨P.block, P.off + 1, none⟩ = some (.int .i64 id) := by rw [e']; exact d1
            have g2 : wr.cell? ⟨P.block, P.off + 2, none⟩ = some (.int .i64 co) := by rw [e']; exact d2
            rw [← eZ] at e1
            subst e1
            have q : ((b : Int) == (b : Int)) = true := by simp
            have hnw := below_new (Below.refl wr.heap.size wr) (.cells #[.int .i64 (b : Int), .int .i64 id, .int .i64 co] 47)
            have hF1 := hidden_ (And.intro (HW.out.below hnw) hnw)
            clear c1 d1 d2 e' eZ hnw
            go_upto_region 12 with fail
            clear g0 g0' g1 g2 t0 t1 t2
            obtain ⟨W1, e1⟩ : ∃ W1, wr.alloc (.cells #[.int .i64 (b : Int), .int .i64 id, .int .i64 co] 47) = W1 := ⟨_, rfl⟩
            have hE1 : W1.heap[wr.heap.size]? = some (.cells #[.int .i64 (b : Int), .int .i64 id, .int .i64 co] 47) := by rw [← e1]; exact heap_alloc_new wr _
            have hnb : ¬ blkOf p.L.a wr.heap.size := fun hb => by
              obtain ⟨_, mm, r⟩ := own_blk HW.out.own hb
              exact Nat.lt_irrefl _ r.lt
            have HNB := hidden_ hnb
            rw [e1] at hF1 ⊢
            obtain ⟨E, eE⟩ : ∃ E, wr.heap.size = E := ⟨_, rfl⟩
            rw [eE] at hE1 HNB
            rw [eE]
            have hOW : Hid (Off B TR w W1) := by
              have := hF1.out.2
              exact (show Off B TR w wr by rw [hm.out]; exact (Off.refl _ _ _).drewN m).trans (Off.of_below this)
            have r1 := hF1.out.1
            have v1 := r1.t1
            have v3 := r1.t3
            have vc := r1.c0 b (by rw [HE.out.2.2.2.2.1]; exact hbn2)
            rw [← HE.out.1, HE.out.2.2.2.2.1, HE.out.2.2.2.2.2.2] at v1
            rw [← EB.out, EV.out.2.1, EB.out] at vc
            obtain ⟨PC, ePC⟩ : ∃ PC, X.add b = PC := ⟨_, rfl⟩
            have eC' : PC = ⟨p.gC, b, none⟩ := by rw [← ePC, HE.out.1, add_zero_at]
            rw [← eC'] at vc
            have HPC := hidden_ eC'
            have fz3 := r1.top.open_ 3
            have st2 := r1.setTm C
            have hFE := hidden_ (show E ≠ f from fun h0 => by
              have ra : Row 47 W1 E 3 := ⟨_, hE1, rfl⟩
              exact ra.ne r1.top (by decide) h0)
            have hFC := hidden_ (show E ≠ p.gC from fun h0 => by
              have ra : Row 47 W1 E 3 := ⟨_, hE1, rfl⟩
              obtain ⟨mC, rC⟩ := r1.rC
              exact ra.ne rC (by decide) h0)
            have HE1 := hidden_ hE1
            have ST2 := hidden_ st2
            clear e1 hnb r1 hF1 eE eC' hE1 st2
            go_upto_region 13 with fail
            obtain ⟨W2, e2⟩ : ∃ W2, W1.setCell ⟨f, 3, none⟩ (.int .i64 C) = W2 := ⟨_, rfl⟩
            have st2 := ST2.out
            rw [e2] at st2 ⊢
            have hE2 : W2.heap[E]? = some (.cells #[.int .i64 (b : Int), .int .i64 id, .int .i64 co] 47) := by
              rw [← e2, Below.heap_setCell W1 ⟨f, 3, none⟩ _ E hFE.out]
              exact HE1.out
            clear v1 v3 vc fz3 e2
            have r2 := st2.1
            have v0 := r2.t0
            have v1 := r2.t1
            have vw := r2.w0 b (by rw [show ({ s with tm := C } : Fr).n = s.n from rfl, HE.out.2.2.2.2.1]; exact hbn2)
            have vc := r2.c0 b (by rw [show ({ s with tm := C } : Fr).n = s.n from rfl, HE.out.2.2.2.2.1]; exact hbn2)
            dsimp only at v0 v1 vw vc
            rw [← HE.out.2.1, HE.out.2.2.2.2.1, HE.out.2.2.2.2.2.1] at v0
            rw [← HE.out.1, HE.out.2.2.2.2.1, HE.out.2.2.2.2.2.2] at v1
            rw [← EB.out, EV.out.2.1, EB.out, ← HPC.out] at vc
            rw [← EB.out, EV.out.1, EB.out] at vw
            obtain ⟨PW, ePW⟩ : ∃ PW, Y.add b = PW := ⟨_, rfl⟩
            have eW' : PW = ⟨p.gW, b, none⟩ := by rw [← ePW, HE.out.2.1, add_zero_at]
            rw [← eW'] at vw
            have ve : W2.cell? ⟨E, 2, none⟩ = some (.int .i64 co) := by unfold World.cell?; rw [hE2]; rfl
            have fzC : W2.frozen? PC = false := by
              obtain ⟨mC, rC⟩ := r2.rC
              rw [HPC.out]
              exact rC.open_ _
            have st3 := hidden_ (show RfAt B (W2.setCell PC (.int .i64 (C + T))) f p { s with tm := C, ck := upd s.ck b (C + T) } ∧ Off B TR W2 (W2.setCell PC (.int .i64 (C + T))) ∧ (W2.setCell PC (.int .i64 (C + T))).heap[E]? = some (.cells #[.int .i64 (b : Int), .int .i64 id, .int .i64 co] 47) from by
              rw [HPC.out]
              obtain ⟨a1, a2⟩ := r2.setCk (i := b) (by rw [show ({ s with tm := C } : Fr).n = s.n from rfl, HE.out.2.2.2.2.1]; exact hbn2) (C + T)
              exact ⟨a1, a2, by rw [Below.heap_setCell W2 ⟨p.gC, b, none⟩ _ E hFC.out]; exact hE2⟩)
            have hO3 := hidden_ st2.2
            clear eW' r2 hE2 st2
            go_region
            obtain ⟨W3, e3⟩ : ∃ W3, (W2.setCell PC (.int .i64 (C + T))).drew = W3 := ⟨_, rfl⟩
            have s3 : RfAt B W3 f p { s with tm := C, ck := upd s.ck b (C + T) } := by rw [← e3]; exact st3.out.1.drewN 1
            have o3 : Off B TR W2 W3 := by rw [← e3]; exact st3.out.2.1.drewN 1
            have hE3 : W3.heap[E]? = some (.cells #[.int .i64 (b : Int), .int .i64 id, .int .i64 co] 47) := by rw [← e3]; exact st3.out.2.2
            rw [e3]
            have ko := rout_call s3 (K := j) hK (by show s.L.length ≤ 1000; rw [HE.out.2.2.2.1]; exact hlen)
            have hj0 : (0 : Int) ≤ (j : Int) := by omega
            have S3 := hidden_ (And.intro s3 (And.intro o3 hE3))
            clear e3 s3 o3 hE3 v0 v1 vw vc ve fzC st3
            go_upto_region 15 with (go_at_call 29; refine ko.mono ?_; rintro e W4 ⟨rfl, h1, h2⟩; have hq := hidden_ (And.intro h1 h2); clear h1 h2 ko)
            have hE4 : W4.heap[E]? = some (.cells #[.int .i64 (b : Int), .int .i64 id, .int .i64 co] 47) := (hq.out.2.row (t := 47) (m := 3) ⟨_, S3.out.2.2, rfl⟩ rfl HNB.out).trans S3.out.2.2
            have b1 : W4.cell? ⟨E, 1, none⟩ = some (.int .i64 id) := by unfold World.cell?; rw [hE4]; rfl
            have b2 : W4.cell? ⟨E, 2, none⟩ = some (.int .i64 co) := by unfold World.cell?; rw [hE4]; rfl
            clear hE4
            go_wp2
            go_quiet (fail)
            go_wp2
            refine bodyPost_ret (v := .tuple #[.int .i64 id, .int .i64 co, .bool true]) (by simp [results, Try.results12, go_sem]) rfl ?_
            obtain ⟨p', hp⟩ := hq.out.1
            have eS : nextS s = { s with tm := C, ck := upd s.ck b (C + T), L := s.L.eraseIdx j } := by
              rw [hS.out, hO2.out, EV.out.1, EV.out.2.1, EV.out.2.2.1, EB.out, ET.out]
            refine ⟨by rw [HX.out]; dsimp only [nextV]; rw [EV.out.2.2.1, EV.out.2.2.2], ⟨p', by rw [eS]; exact hp.drewN _⟩, ?_⟩
            exact ((hOW.out.trans hO3.out).trans (S3.out.2.1.trans (S3.out.1.offTR hq.out.2))).drewN _
          · have hne := HKn.out.1 j (by omega)
            rw [EB.out] at hne
            have hx0 : ¬ (s.L[j].t : Int) = (b : Int) := by omega
            obtain ⟨T0, eT0⟩ : ∃ T0 : Int, (s.L[j].t : Int) = T0 := ⟨_, rfl⟩
            rw [eT0] at c1 hx0
            have c1' : wr.cell? P = some (.int .i64 T0) := by rw [e']; exact c1
            have c1'' : wr.cell? ⟨P.block, P.off, none⟩ = some (.int .i64 T0) := by rw [e']; exact c1
            rw [← eZ] at e1
            subst e1
            have q : (T0 == (b : Int)) = false := by simp [hx0]
            clear c1 d1 d2 eT0 e' eZ hlt' hne
            go_wp2
            go_roundw
            case rel => exact ⟨j + 1, by omega, by go_num, trivial⟩
            case measure => simp [intOf]; omega

end Go.Proofs.Ytkjmlbllpnehlaa
