/- For every list of weights and every row of acts (its first hundred): of a tenant what waits longest comes first, all that waits comes, each once, and what is cancelled does not. -/
import Derived.Test.YtkjmlbllpnehlaaRows
import Derived.Test.YtkjmlbllpnehlaaView
import Derived.Test.YtkjmlbllpnehlaaOwn
import Derived.Test.YtkjmlbllpnehlaaSteps
import Derived.Test.YtkjmlbllpnehlaaBase
import Derived.Test.YtkjmlbllpnehlaaOpenOps
import Derived.Test.YtkjmlbllpnehlaaFkZ
import Derived.Test.YtkjmlbllpnehlaaFkBy
import Derived.Test.YtkjmlbllpnehlaaFkAt
import Derived.Test.YtkjmlbllpnehlaaFkNew
import Derived.Test.YtkjmlbllpnehlaaFkNext
import Derived.Test.YtkjmlbllpnehlaaFkWorks
import Derived.Test.YtkjmlbllpnehlaaInAt
import Derived.Test.YtkjmlbllpnehlaaBt
import Derived.WalkKit
import Derived.ProofKit
import Derived.OpenShut
import Derived.ChangeOld
import Derived.Below
import Derived.WalkLawsBesides
import Derived.ChangeMaps5
import Derived.Deep.RegionHeld3
import Derived.Deep.Cut
import Derived.Deep.RegionLaw
import Derived.OwnWalk
import Derived.SizedLaws
namespace Go.Proofs.Ytkjmlbllpnehlaa.fairOrder
open Go.ChangeShapes Go.WideShapes Go.ChangeAt Go.RowKit
set_option linter.unusedVariables false
set_option linter.unusedSimpArgs false

theorem own : ownKnob Try.prog.godebug = none := by kernel_rfl
theorem laidOut : laidOutB Try.prog = true := by kernel_rfl
theorem bytes3 : Try.prog.bytesOf 3 = 8 := by kernel_rfl

theorem info_parts {b : TypeId} {z : Value} {s y : Nat} (h : (Try.prog.info? b).map (fun i => (i.zero, i.size, i.bytes)) = some (some z, s, y)) : ∃ i, Try.prog.info? b = some i ∧ i.zero = some z ∧ i.size = s ∧ i.bytes = y := by
  obtain ⟨i, hi, hz⟩ := Option.map_eq_some_iff.1 h
  simp only [Prod.mk.injEq] at hz
  exact ⟨i, hi, hz.1, hz.2.1, hz.2.2⟩
/-- tenants in a state, and a row that holds what waits -/
structure Oz (B : Nat) (w0 w : World) (f : Nat) (s : Fr) (a : Option Addr) (c : Nat) : Prop where
  p : FrIn B w0 w f s
  i : InAt B w a c s.L
theorem Oz.below {B : Nat} {w0 w w' : World} {f : Nat} {s : Fr} {a : Option Addr} {c : Nat} (h : Oz B w0 w f s a c) (hb : Below w.heap.size w w') : Oz B w0 w' f s a c := ⟨h.p.more hb, h.i.below hb⟩
theorem Oz.le {B : Nat} {w0 w : World} {f : Nat} {s : Fr} {a : Option Addr} {c : Nat} (h : Oz B w0 w f s a c) : B ≤ w.heap.size := by obtain ⟨g, A, hF⟩ := h.p.at_; exact hF.lt.2.2
theorem lenOf_slice (a : Option Addr) (n c : Nat) : (match Value.slice a n c with | .slice _ n _ => n | _ => 0) = n := rfl
def lenV : Value → Nat
  | .slice _ n _ => n
  | _ => 0


set_option maxHeartbeats 4000000 in
set_option maxRecDepth 20000 in
theorem walk (a0 : Option Addr) (n0 c0 : Nat) (z0 : List Int) (a1 : Option Addr) (n1 c1 : Nat) (O1 : Nat → OpV) (w : World) (w0 : Reads .i64 w a0 n0 z0) (e0 : a0 = none → c0 = 0) (l0 : n0 ≤ c0) (w1 : OpsAt w a1 n1 O1) (e1 : a1 = none → c1 = 0) (l1 : n1 ≤ c1) (b0 : n0 * 8 ≤ 140737488351232) :
    Calls Try.prog 5 #[.slice a0 n0 c0, .slice a1 n1 c1] w fun e w' => e = .returned (.bool true) ∧ Below w.heap.size w w' := by
  have hm1 := w1.max
  have hm0 := w0.max
  obtain ⟨i0, hi, hz0, hz1, hz2⟩ := info_parts info3
  have kW := works_call w
  cases hok : okW z0 with
  | false =>
    have kp := fun W a c (h : Reads .i64 W a n0 z0) => new_no h (c := c) hok
    have HR := hidden_ w0
    clear hok w1
    go_enter Try.func5, Try.ntmps5
    go_wp2_with (first
      | (go_at_call 19; refine kW.mono ?_; rintro e W0 ⟨rfl, hb0⟩; have w0' := w0.below hb0; have HB0 := hidden_ hb0; clear kW hb0)
      | (at_builtin; refine wpList_copy rfl (.tmp 25) (.tmp 26) 22 rfl W0.heap.size 3 i0 (.int .i64 0) 8 Try.underlying22 hi hz0 hz1 hz2 rfl _ 0 [] rfl (World.ownsRow_lit _ #[] 0 (Nat.le_refl _) (by decide) rfl) .i64 a0 n0 c0 z0 rfl (w0'.below (below_new (Below.refl _ _) _)) e0 (by unfold maxLen; omega) (by omega) (below_new (Below.refl _ _) _).size ?_; intro v1 W1 ho1 hg1; obtain ⟨p1, q1, rfl, r1, hb1, -, cp1⟩ := copied (Below.refl W0.heap.size W0) _ ho1 hg1 w0'; have k7 := kp W1 p1 q1 r1; have HB := hidden_ (below_then HB0.out hb1); clear ho1 hg1 kp)
      | (go_at_call 7; refine k7.mono ?_; rintro e W2 ⟨rfl, h2⟩; obtain rfl := h2.symm; clear k7))
    go_ret
    exact ⟨rfl, HB.out⟩
  | true =>
    have kp := fun W a c (h : Reads .i64 W a n0 z0) => new_yes h (c := c) hok
    have HO := hidden_ w1
    have hOk := hidden_ (newF_ok hok)
    clear hok w1
    go_enter Try.func5, Try.ntmps5
    go_wp2_with (first
      | (go_at_call 19; refine kW.mono ?_; rintro e W0 ⟨rfl, hb0⟩; have w0' := w0.below hb0; have HB0 := hidden_ hb0; clear kW hb0 w0)
      | (at_builtin; refine wpList_copy rfl (.tmp 25) (.tmp 26) 22 rfl W0.heap.size 3 i0 (.int .i64 0) 8 Try.underlying22 hi hz0 hz1 hz2 rfl _ 0 [] rfl (World.ownsRow_lit _ #[] 0 (Nat.le_refl _) (by decide) rfl) .i64 a0 n0 c0 z0 rfl (w0'.below (below_new (Below.refl _ _) _)) e0 (by unfold maxLen; omega) (by omega) (below_new (Below.refl _ _) _).size ?_; intro v1 W1 ho1 hg1; obtain ⟨p1, q1, rfl, r1, hb1, -, cp1⟩ := copied (Below.refl W0.heap.size W0) _ ho1 hg1 w0'; have k7 := kp W1 p1 q1 r1; have HB := hidden_ (below_then HB0.out hb1); clear ho1 hg1 kp w0' HB0)
      | (go_at_call 7; refine k7.mono ?_; rintro e W2 ⟨f, rfl, h2, h3⟩; have hB0 : Hid (Oz w.heap.size w W2 f (newF z0) none 0) := ⟨⟨h2 _ HB.out.size, below_then HB.out h3⟩, InAt.nil _ _⟩; clear k7 h2 h3))
    clear HB r1 hb1 cp1
    go_loopw [7, 8] (fun q i wr => ∃ k : Nat, k ≤ n1 ∧ k ≤ 100 ∧ i = .int .i64 k ∧ ∃ s a c, q = .slice a s.L.length c ∧ Hid (FrOk k s ∧ s.L.length ≤ k ∧ Oz w.heap.size w wr f s a c)) (fun _ i _ => n1 - (intOf i).toNat)
    case atStart => exact ⟨0, Nat.zero_le _, Nat.zero_le _, rfl, _, _, _, rfl, hOk.out, Nat.le_refl _, hB0.out⟩
    case round =>
      clear hB0 hOk
      obtain ⟨k, hk, hk', rfl, s, a, c, rfl, hS⟩ := hrel
      obtain ⟨l, el⟩ : ∃ l, s.L.length = l := ⟨_, rfl⟩
      rw [el]
      have hlk : l ≤ k := by rw [← el]; exact hS.out.2.1
      have EL := hidden_ el
      clear el
      by_cases hlt : k < n1 ∧ k < 100
      · obtain ⟨y1, y2⟩ := hlt
        have y1' : (k : Int) < (n1 : Int) := by omega
        have y2' : (k : Int) < 100 := by omega
        obtain ⟨x, rfl⟩ := HO.out.some_ (by omega)
        have hwf := hidden_ (HO.out.wf k y1)
        obtain ⟨d0, d1, d2, d3⟩ := (HO.out.below (by have := hS.out.2.2.p.below; exact this)).cell x rfl k y1
        obtain ⟨P, eP⟩ : ∃ P, x.add (k * 4) = P := ⟨_, rfl⟩
        rw [eP] at d0 d1 d2 d3
        have d1' : wr.cell? ⟨P.block, P.off + 1, none⟩ = some (.int .i64 (O1 k).t) := d1
        have d2' : wr.cell? ⟨P.block, P.off + 2, none⟩ = some (.int .i64 (O1 k).i) := d2
        have d3' : wr.cell? ⟨P.block, P.off + 3, none⟩ = some (.int .i64 (O1 k).c) := d3
        clear d1 d2 d3
        obtain ⟨⟨ok, ot, oi, oc⟩, eo⟩ : ∃ o, O1 k = o := ⟨_, rfl⟩
        rw [eo] at d0 d1' d2' d3' hwf
        dsimp only at d0 d1' d2' d3' hwf
        clear eo
        have hA := below_new (Below.refl wr.heap.size wr) (.cells #[.int .i64 ok, .int .i64 ot, .int .i64 oi, .int .i64 oc] 32)
        have hq := hidden_ (And.intro (hS.out.2.2.below hA) (BoxAt.new wr ok ot oi oc))
        clear hA
        obtain ⟨E, eE⟩ : ∃ E, wr.heap.size = E := ⟨_, rfl⟩
        obtain ⟨A, eA⟩ : ∃ A, wr.alloc (.cells #[.int .i64 ok, .int .i64 ot, .int .i64 oi, .int .i64 oc] 32) = A := ⟨_, rfl⟩
        rw [eA, eE] at hq
        have g0 := hq.out.2.c0
        have g1 := hq.out.2.c1
        have g2 := hq.out.2.c2
        have g3 := hq.out.2.c3
        dsimp only at g0 g1 g2 g3
        by_cases h2 : ok = 2
        · subst h2
          have kA := hq.out.1.p.cancel hS.out.1 oi
          obtain ⟨b, eb⟩ : ∃ b, hasB s.L oi = b := ⟨_, rfl⟩
          rw [eb] at kA
          have HBb := hidden_ eb
          go_upto_region 15 with (go_at_call 13; refine kA.mono ?_; rintro e W2 ⟨rfl, h3, h4⟩; have hr := hidden_ (And.intro h3 (And.intro (hq.out.1.i.off h4 rfl) (hq.out.2.off h4 rfl))); clear h3 h4 kA)
          clear eb eA eE d0 d1' d2' d3' g0 g1 g2 g3
          go_wp2
          go_loopw [12, 13] (fun q i wr2 => ∃ j : Nat, j ≤ l ∧ i = .int .i64 j ∧ ∃ a' c' r, r = (outL (s.L.take j) oi).length ∧ r ≤ j ∧ q = .slice a' r c' ∧ Hid (InAt W2.heap.size wr2 a' c' (outL (s.L.take j) oi) ∧ Below W2.heap.size W2 wr2)) (fun _ i _ => l - (intOf i).toNat)
          case atStart => exact ⟨0, Nat.zero_le _, rfl, none, 0, 0, by simp [outL], Nat.le_refl _, rfl, by simp [outL]; exact InAt.nil _ _, Below.refl _ _⟩
          case round =>
            obtain ⟨j, hj, rfl, a', c', r, hr0, hrj, rfl, hI⟩ := hrel
            have HR := hidden_ hr0
            clear hr0
            rename World => V
            by_cases hjl : j < l
            · have hlt' : j < s.L.length := by rw [EL.out]; exact hjl
              obtain ⟨y, e1, c1, d1, d2, -⟩ := (hr.out.2.1.below hI.out.2).cells hlt'
              have bx := hr.out.2.2.below hI.out.2
              have g2 := bx.c2
              dsimp only at g2
              have hsu := hidden_ (out_take_succ s.L oi j hlt')
              have hx0 : (0 : Int) ≤ (s.L[j].t : Int) := by omega
              have hnat := hidden_ (rfl : (s.L[j].t : Int) = ((s.L[j].t : Nat) : Int))
              obtain ⟨⟨xt, xi, xc⟩, ex⟩ : ∃ x, s.L[j] = x := ⟨_, rfl⟩
              rw [ex] at c1 d1 d2
              have EX := hidden_ ex
              dsimp only at c1 d1 d2
              obtain ⟨T, eT⟩ : ∃ T : Int, (xt : Int) = T := ⟨_, rfl⟩
              rw [eT] at c1
              have ET := hidden_ eT
              obtain ⟨Z, eZ⟩ : ∃ Z : Addr, Z = ⟨y, 0, none⟩ := ⟨_, rfl⟩
              obtain ⟨Q, eQ⟩ : ∃ Q, Z.add (j * 3) = Q := ⟨_, rfl⟩
              have e' : Q = ⟨y, j * 3, none⟩ := by rw [← eQ, eZ, add_zero_at]
              have c1' : V.cell? Q = some (.int .i64 T) := by rw [e']; exact c1
              have c1'' : V.cell? ⟨Q.block, Q.off, none⟩ = some (.int .i64 T) := by rw [e']; exact c1
              have d1' : V.cell? ⟨Q.block, Q.off + 1, none⟩ = some (.int .i64 xi) := by rw [e']; exact d1
              have d2' : V.cell? ⟨Q.block, Q.off + 2, none⟩ = some (.int .i64 xc) := by rw [e']; exact d2
              rw [← eZ] at e1
              subst e1
              clear c1 d1 d2 ex eT e' eZ bx
              by_cases hx : xi = oi
              · have q : (xi != oi) = false := by simp [hx]
                have hr1 := hsu.out
                rw [if_pos (by rw [EX.out]; exact hx), List.append_nil] at hr1
                have HR1 := hidden_ hr1
                clear hr1 hx hsu
                go_upto_region 18 with fail
                go_region
                go_wp2
                go_roundw
                case rel => exact ⟨j + 1, by omega, by go_num, _, _, r, by rw [HR1.out]; exact HR.out, by omega, rfl, by rw [HR1.out]; exact hI.out.1.below (below_drew (Below.refl _ _) ⟨1, rfl⟩), by exact below_drew hI.out.2 ⟨1, rfl⟩⟩
                case measure => simp [intOf]; omega
              · have q : (xi != oi) = true := by simp [hx]
                have hr1 := hsu.out
                rw [if_neg (by rw [EX.out]; exact hx), EX.out] at hr1
                have HR1 := hidden_ hr1
                have hbd : Below W2.heap.size W2 V.drew := below_drew hI.out.2 ⟨1, rfl⟩
                obtain ⟨a2, c2, W5, hap, hin, hof⟩ := (hI.out.1.below (below_drew (Below.refl _ _) ⟨1, rfl⟩ : Below V.heap.size V V.drew)).more hbd.size (by rw [← HR.out]; omega) xt xi xc
                rw [← HR.out, ET.out] at hap
                have HN := hidden_ (And.intro hin (hbd.trans (hof.below hbd.size)))
                have hr2 := hidden_ (show r + 1 = (outL (s.L.take (j + 1)) oi).length by rw [HR1.out, List.length_append, ← HR.out]; rfl)
                clear hr1 hx hsu hin hof hbd
                go_upto_region 18 with fail
                go_region
                go_wp2_with (at_builtin; refine wpList_append_run rfl (.tmp 76) (.tmp 81) 45 rfl 45 rfl _ _ rfl rfl _ _ hap ?_)
                go_roundw
                case rel => exact ⟨j + 1, by omega, by go_num, _, _, r + 1, hr2.out, by omega, rfl, by rw [HR1.out]; exact HN.out.1, HN.out.2⟩
                case measure => simp [intOf]; omega
            · have e : j = l := by omega
              subst e
              rw [show s.L.take j = s.L by rw [← EL.out, List.take_length]] at HR hI
              have hb2 := out_lt s.L oi
              rw [HBb.out, ← HR.out, EL.out] at hb2
              have hq2 : (b != decide (r < j)) = false := by rw [hb2]; cases b <;> rfl
              have hr' : decide ((r : Int) < (j : Int)) = b := by rw [← hb2]; simp
              have hfin : Hid (FrOk (k + 1) (canS s oi) ∧ (canS s oi).L.length ≤ k + 1 ∧ Oz w.heap.size w V f (canS s oi) a' c') := ⟨(hS.out.1.canS oi).mono (Nat.le_succ _), by have := canS_len s oi; rw [EL.out] at this; omega, hr.out.1.more hI.out.2, hI.out.1.mono (by obtain ⟨g, A, hF⟩ := hr.out.1.at_; exact hF.lt.2.2)⟩
              clear hb2 hlk
              cases b with
              | false =>
                have hx1 : ¬ (r : Int) < (j : Int) := by simpa using hr'
                clear hr' hq2
                go_wp2
                go_roundw
                case rel => exact ⟨k + 1, by omega, by omega, by go_num, canS s oi, _, _, by rw [HR.out]; rfl, hfin.out⟩
                case measure => simp [intOf]; omega
              | true =>
                have hx1 : (r : Int) < (j : Int) := by simpa using hr'
                clear hr' hq2
                go_wp2
                go_roundw
                case rel => exact ⟨k + 1, by omega, by omega, by go_num, canS s oi, _, _, by rw [HR.out]; rfl, hfin.out⟩
                case measure => simp [intOf]; omega
        · have h2' : (ok == 2) = false := by simp [h2]
          have kA := hq.out.1.p.add hS.out.1 (by omega) ot oi oc
          have hOkS := hidden_ ((hS.out.1.addS (z := ot) (co := oc) hwf.out).mono (Nat.le_succ k))
          by_cases hX : addE s ot oi oc = 0
          · obtain ⟨e1, -⟩ := addE_ok hX
            obtain ⟨z0, z1, z2, z3⟩ := num_nat e1
            have eS := hidden_ (show (addS s ot oi oc).L = s.L ++ [(⟨ot.toNat, oi, oc⟩ : It)] by unfold addS; rw [if_pos hX])
            have key : ∀ W, FrIn w.heap.size w W f (addS s ot oi oc) → Off w.heap.size TF A W → ∃ a2 c2 W5, (Builtin.append_ #[45, 45] 45 #[.slice a l c, .slice (some ⟨W.heap.size, 0, none⟩) 1 1]).run Try.prog (W.alloc (.cells #[.int .i64 ot, .int .i64 oi, .int .i64 oc] 47)) = .ok (.slice a2 (l + 1) c2) W5 ∧ Hid (Oz w.heap.size w W5 f (addS s ot oi oc) a2 c2) ∧ BoxAt W E ⟨ok, ot, oi, oc⟩ := by
              intro W hF ho
              have hi2 := hq.out.1.i.off ho rfl
              have hB : w.heap.size ≤ W.heap.size := by obtain ⟨g, A', hF'⟩ := hF.at_; exact hF'.lt.2.2
              obtain ⟨a2, c2, W5, h1, h2, h3⟩ := hi2.more hB (by rw [EL.out]; omega) ot.toNat oi oc
              rw [z3, EL.out] at h1
              have ho2 := hi2.offT h3
              refine ⟨a2, c2, W5, h1, ⟨⟨?_, hF.below.trans (ho2.below hB)⟩, by rw [eS.out]; exact h2⟩, hq.out.2.off ho rfl⟩
              obtain ⟨g, A', hF'⟩ := hF.at_
              exact ⟨g, A', hF'.off ho2 rfl rfl rfl⟩
            have KEY := hidden_ key
            rw [hX] at kA
            have eL := hidden_ (show (addS s ot oi oc).L.length = l + 1 by rw [eS.out, List.length_append, EL.out]; rfl)
            clear key e1 z0 z1 z2 z3 hX
            go_upto_region 24 with (go_at_call 9; refine kA.mono ?_; rintro e W2 ⟨rfl, h3, h4⟩; obtain ⟨a2, c2, W5, hap, hz, bx⟩ := KEY.out W2 h3 h4; have g4 := bx.c1; have g5 := bx.c2; have g6 := bx.c3; dsimp only at g4 g5 g6; clear h3 h4 kA bx)
            clear eA eE d0 d1' d2' d3' g0 g1 g2 g3 KEY
            go_wp2_with (at_builtin; refine wpList_append_run rfl (.tmp 99) (.tmp 107) 45 rfl 45 rfl _ _ rfl rfl _ _ hap ?_)
            go_roundw
            case rel => exact ⟨k + 1, by omega, by omega, by go_num, _, a2, c2, by rw [eL.out], hOkS.out, by rw [eL.out]; omega, hz.out⟩
            case measure => simp [intOf]; omega
          · have e2 : addS s ot oi oc = s := by unfold addS; rw [if_neg hX]
            rw [e2] at kA hOkS
            have keep := hidden_ (fun W (ho : Off w.heap.size TF A W) => hq.out.1.i.off ho rfl)
            obtain ⟨X, eX⟩ : ∃ X, addE s ot oi oc = X := ⟨_, rfl⟩
            rw [eX] at kA hX
            have vX : (X == 0) = false := by simp [hX]
            clear e2 eX hX
            go_upto_region 9 with (go_at_call 9; refine kA.mono ?_; rintro e W2 ⟨rfl, h3, h4⟩; have hz := hidden_ (Oz.mk h3 (keep.out W2 h4)); clear h3 h4 kA)
            clear eA eE d0 d1' d2' d3' g0 g1 g2 g3
            go_wp2
            go_roundw
            case rel => exact ⟨k + 1, by omega, by omega, by go_num, s, a, c, by rw [EL.out], hOkS.out, by rw [EL.out]; omega, hz.out⟩
            case measure => simp [intOf]; omega
      · have hS2 := hidden_ (show FrOk k s ∧ k + s.L.length ≤ 300 ∧ Oz w.heap.size w wr f s a c from ⟨hS.out.1, by rw [EL.out]; omega, hS.out.2.2⟩)
        by_cases y1 : k < n1
        · have y1' : (k : Int) < (n1 : Int) := by omega
          have y2' : ¬ (k : Int) < 100 := by omega
          clear hlt
          go_wp2
          rename World => W00
          go_loopw [7] (fun q wr2 => ∃ s a c m, q = .slice a s.L.length c ∧ Hid (FrOk m s ∧ m + s.L.length ≤ 300 ∧ Oz w.heap.size w wr2 f s a c)) (fun q _ => lenV q)
          case atStart => exact ⟨s, a, c, k, by rw [EL.out], hS2.out⟩
          case round =>
            clear hS hS2 EL hlk y1' hk hk'
            rename Fr => s0
            obtain ⟨s, a, c, m, rfl, hS⟩ := hrel
            obtain ⟨l, el⟩ : ∃ l, s.L.length = l := ⟨_, rfl⟩
            rw [el]
            have EL := hidden_ el
            clear el
            have kN := hS.out.2.2.p.next hS.out.1 (by have := hS.out.2.1; omega)
            by_cases hl0 : l = 0
            · subst hl0
              have hn : nextO s = none := (next_empty hS.out.1).2 (List.eq_nil_of_length_eq_zero EL.out)
              rw [hn] at kN
              dsimp only [nextV] at kN
              clear hn
              go_wp2_with (go_at_call 11; refine kN.mono ?_; rintro e W2 ⟨rfl, h3, -⟩; have hb := hidden_ h3.below; clear h3 kN)
              go_ret
              exact ⟨rfl, hb.out⟩
            · have hlp : 0 < l := by omega
              have hl3 : l ≤ 300 := by rw [← EL.out]; have := hS.out.2.1; omega
              have hl3' : (l : Int) ≤ 300 := by omega
              have hlp' : (0 : Int) < (l : Int) := by omega
              cases hx : nextO s with
              | none =>
                have := (next_empty hS.out.1).1 hx
                have hl2 := EL.out
                rw [this] at hl2
                simp at hl2
                omega
              | some x =>
                obtain ⟨hxL, hbest, hhead⟩ := nextO_mem hx
                obtain ⟨K, hK, hKx, hKn⟩ := first_of hhead
                have hKid : ∀ j (hj : j < K), s.L[j].id ≠ x.id := fun j hj e => hKn j hj (by rw [inj_id hS.out.1.nd (List.getElem_mem _) hxL e])
                have hO : outL s.L x.id = s.L.eraseIdx K := by rw [← hKx]; exact out_at hS.out.1.nd hK
                have eN : (nextS s).L = s.L.eraseIdx K := by unfold nextS; rw [hx]; exact hO
                have hKl : K < l := by rw [← EL.out]; exact hK
                have HKn := hidden_ (And.intro hKn (And.intro hKx hKid))
                have EN := hidden_ eN
                have hOk := hidden_ hS.out.1.nextS
                have hel := hidden_ (show (nextS s).L.length = l - 1 by rw [eN, List.length_eraseIdx, if_pos hK, EL.out])
                have hki := hidden_ (fun W (o : Off w.heap.size TF W00 W) => hS.out.2.2.i)
                rw [hx] at kN
                dsimp only [nextV] at kN
                obtain ⟨⟨xt, xi, xc⟩, ex⟩ : ∃ q, x = q := ⟨_, rfl⟩
                rw [ex] at kN HKn
                dsimp only at kN HKn
                have keep : ∀ W, Off w.heap.size TF wr W → InAt w.heap.size W a c s.L := fun W o => hS.out.2.2.i.off o rfl
                clear hxL hbest hhead hKn hKx hKid hO eN hx hki ex hl0
                go_upto_region 29 with (go_at_call 11; refine kN.mono ?_; rintro e W2 ⟨rfl, h3, h4⟩; have hr := hidden_ (And.intro h3 (keep W2 h4)); clear h3 h4 kN keep)
                obtain ⟨y, e1, -⟩ := hr.out.2.cells hK
                obtain ⟨Z, eZ⟩ : ∃ Z : Addr, Z = ⟨y, 0, none⟩ := ⟨_, rfl⟩
                rw [← eZ] at e1
                subst e1
                have EZ := hidden_ eZ
                have cel : Hid (∀ V, InAt w.heap.size V (some Z) c s.L → ∀ j (hj : j < s.L.length), V.cell? ⟨(Z.add (j * 3)).block, (Z.add (j * 3)).off, none⟩ = some (.int .i64 ((s.L[j]).t : Int)) ∧ V.cell? ⟨(Z.add (j * 3)).block, (Z.add (j * 3)).off + 1, none⟩ = some (.int .i64 (s.L[j]).id) ∧ V.cell? ⟨(Z.add (j * 3)).block, (Z.add (j * 3)).off + 2, none⟩ = some (.int .i64 (s.L[j]).co) ∧ V.cell? (Z.add (j * 3)) = some (.int .i64 ((s.L[j]).t : Int))) := fun V hV j hj => by
                  obtain ⟨y', q1, q2, q3, q4, -⟩ := hV.cells hj
                  rw [EZ.out] at q1
                  obtain rfl : y = y' := by simpa using q1
                  have e' : Z.add (j * 3) = ⟨y, j * 3, none⟩ := by rw [EZ.out, add_zero_at]
                  rw [e']
                  exact ⟨q2, q3, q4, q2⟩
                clear eZ
                go_wp2
                rename World => W01
                go_loopw [17] (fun i wr3 => ∃ j : Nat, j ≤ K ∧ i = .int .i64 j ∧ wr3 = W01) (fun i _ => l - (intOf i).toNat)
                case atStart => exact ⟨0, Nat.zero_le _, rfl, rfl⟩
                case round =>
                  obtain ⟨j, hj, rfl, hw3⟩ := hrel
                  subst hw3
                  have hjl : j < l := by omega
                  have hjl' : (j : Int) < (l : Int) := by omega
                  have hlt' : j < s.L.length := by rw [EL.out]; exact hjl
                  by_cases ej : j = K
                  · subst ej
                    obtain ⟨q0, q1, q2, q3⟩ := cel.out wr hr.out.2 j hlt'
                    rw [HKn.out.2.1] at q1 q2
                    dsimp only at q1 q2
                    have v1 : (xi != xi) = false := by simp
                    have v2 : (xc != xc) = false := by simp
                    have v3 : ((j : Int) == (l : Int)) = false := by simp; omega
                    have v3' : ¬ ((j : Int) = (l : Int)) := by omega
                    clear q0 q3
                    obtain ⟨P, eP⟩ : ∃ P, Z.add (j * 3) = P := ⟨_, rfl⟩
                    rw [eP] at q1 q2
                    go_wp2
                    clear q1 q2 eP v1 v2 v3 v3'
                    rename World => W02
                    go_loopw [18] (fun i wr4 => ∃ n : Nat, n ≤ j ∧ i = .int .i64 n ∧ Hid (FrIn w.heap.size w wr4 f (nextS s) ∧ InAt w.heap.size wr4 (some Z) c s.L)) (fun i _ => l - (intOf i).toNat)
                    case atStart => exact ⟨0, Nat.zero_le _, rfl, hr.out⟩
                    case round =>
                      clear hr
                      obtain ⟨n, hn, rfl, hr⟩ := hrel
                      by_cases hnj : n < j
                      · have hnl : (n : Int) < (l : Int) := by omega
                        have hnj' : (n : Int) < (j : Int) := by omega
                        have hnl2 : n < l := by omega
                        have hn' : n < s.L.length := by omega
                        obtain ⟨q0, q1, q2, q3⟩ := cel.out wr hr.out.2 n hn'
                        obtain ⟨p0, p1, p2, p3⟩ := cel.out wr hr.out.2 j hlt'
                        rw [HKn.out.2.1] at p0 p3
                        dsimp only at p0 p3
                        have hne := HKn.out.1 n hnj
                        have hx0 : ¬ (s.L[n].t : Int) = (xt : Int) := by omega
                        obtain ⟨T0, eT0⟩ : ∃ T0 : Int, (s.L[n].t : Int) = T0 := ⟨_, rfl⟩
                        obtain ⟨T1, eT1⟩ : ∃ T1 : Int, (xt : Int) = T1 := ⟨_, rfl⟩
                        rw [eT0] at q0 q3 hx0
                        rw [eT1] at p0 p3 hx0
                        have v : (T0 == T1) = false := by simp [hx0]
                        obtain ⟨P, eP⟩ : ∃ P, Z.add (n * 3) = P := ⟨_, rfl⟩
                        obtain ⟨R, eR⟩ : ∃ R, Z.add (j * 3) = R := ⟨_, rfl⟩
                        rw [eP] at q0 q3
                        rw [eR] at p0 p3
                        have hD : Hid (FrIn w.heap.size w wr.drew f (nextS s) ∧ InAt w.heap.size wr.drew (some Z) c s.L) := ⟨hr.out.1.more (below_drew (Below.refl _ _) ⟨1, rfl⟩), hr.out.2.below (below_drew (Below.refl _ _) ⟨1, rfl⟩)⟩
                        clear q1 q2 p1 p2 hne hx0 eT0 eT1 hr
                        go_upto_region 37 with fail
                        go_region
                        go_wp2
                        go_roundw
                        case rel => exact ⟨n + 1, by omega, by go_num, hD⟩
                        case measure => simp [intOf]; omega
                      · have e : n = j := by omega
                        subst e
                        obtain ⟨gg, X, va, vc, V2, da, dc, V3, h1, h2, h3, h4, h5, h6, h7, h8, h9⟩ := hr.out.2.cut hlt' (by rw [EL.out]; have := hS.out.2.1; rw [EL.out] at this; omega) (by obtain ⟨g, A, hF⟩ := hr.out.1.at_; exact hF.lt.2.2)
                        have hfin := hidden_ (show FrOk (m + 1) (nextS s) ∧ m + 1 + (nextS s).L.length ≤ 300 ∧ Oz w.heap.size w V3 f (nextS s) da dc from ⟨hOk.out, by rw [hel.out]; have := hS.out.2.1; rw [EL.out] at this; omega, hr.out.1.more h8, by rw [EN.out]; exact h7.mono (by obtain ⟨g, A, hF⟩ := hr.out.1.at_; exact hF.lt.2.2)⟩)
                        have eZ2 : Z = ⟨gg, 0, none⟩ := by simpa using h1
                        have heL : (s.L.eraseIdx n).length = l - 1 := by rw [← EN.out]; exact hel.out
                        have heN : (nextS s).L.length = l - 1 := hel.out
                        rw [heL] at h6
                        rw [EL.out] at h2 h6
                        obtain ⟨J, eJ⟩ : ∃ J : Nat, n + 1 = J := ⟨_, rfl⟩
                        rw [eJ] at h6 h9
                        rw [← add_zero_at gg (J * 3), ← eZ2] at h9
                        rw [← eZ2] at h5
                        obtain ⟨d, ed⟩ : ∃ d : Nat, l - J = d := ⟨_, rfl⟩
                        have ed' : l - J = d := ed
                        rw [ed] at h6
                        have j1 : (n : Int) + 1 = (J : Int) := by omega
                        have j2 : (J : Int) ≤ (l : Int) := by omega
                        have j3 : (n : Int) ≤ (l : Int) := by omega
                        have j4 : J ≤ 301 := by omega
                        have j8 : (0 : Int) ≤ (J : Int) := by omega
                        have j9 : IntKind.i64.wrap (J : Int) = (J : Int) := wrap_id (by omega) (by omega)
                        have j5 : n ≤ c := by omega
                        have j6 : J ≤ c := by omega
                        have j7 : (n : Int) ≤ (c : Int) := by omega
                        have HL1 := hidden_ heN
                        clear h1 h4 h7 h8 eZ2 heL heN eJ ed hr hlt' hel
                        go_upto_region 39 with fail
                        go_region_law (first
                          | refine step_append_run2 rfl (.tmp 164) (.tmp 167) 45 rfl 45 rfl _ _ (by simp [Act.eval, Act.put]) (by simp [Act.eval, Act.put]) _ _ h5 ?_
                          | refine step_append_run2 rfl (.tmp 168) (.tmp 172) 45 rfl 45 rfl _ _ (by simp [Act.eval, Act.put]) (by simp [Act.eval, Act.put]) _ _ h6 ?_)
                        simp only [List.getElem_toArray, List.getElem_cons_succ, List.getElem_cons_zero, Act.put, List.setIfInBounds_toArray, List.set_cons_succ, List.set_cons_zero]
                        go_wp2
                        go_roundw
                        case rel => exact ⟨nextS s, da, dc, m + 1, by rw [HL1.out], hfin.out⟩
                        case measure => simp [lenV]; omega
                  · obtain ⟨q0, q1, q2, q3⟩ := cel.out wr hr.out.2 j hlt'
                    have hne := HKn.out.2.2 j (by omega)
                    obtain ⟨X, eX⟩ : ∃ X, s.L[j].id = X := ⟨_, rfl⟩
                    rw [eX] at q1 hne
                    have v1 : (X != xi) = true := by simp [hne]
                    obtain ⟨P, eP⟩ : ∃ P, Z.add (j * 3) = P := ⟨_, rfl⟩
                    rw [eP] at q1
                    clear q0 q2 q3 eX hne hlt'
                    go_wp2
                    go_roundw
                    case rel => exact ⟨j + 1, by omega, by go_num, trivial⟩
                    case measure => simp [intOf]; omega
        · have y1' : ¬ (k : Int) < (n1 : Int) := by omega
          clear hlt
          go_wp2
          rename World => W00
          go_loopw [7] (fun q wr2 => ∃ s a c m, q = .slice a s.L.length c ∧ Hid (FrOk m s ∧ m + s.L.length ≤ 300 ∧ Oz w.heap.size w wr2 f s a c)) (fun q _ => lenV q)
          case atStart => exact ⟨s, a, c, k, by rw [EL.out], hS2.out⟩
          case round =>
            clear hS hS2 EL hlk y1' hk hk'
            rename Fr => s0
            obtain ⟨s, a, c, m, rfl, hS⟩ := hrel
            obtain ⟨l, el⟩ : ∃ l, s.L.length = l := ⟨_, rfl⟩
            rw [el]
            have EL := hidden_ el
            clear el
            have kN := hS.out.2.2.p.next hS.out.1 (by have := hS.out.2.1; omega)
            by_cases hl0 : l = 0
            · subst hl0
              have hn : nextO s = none := (next_empty hS.out.1).2 (List.eq_nil_of_length_eq_zero EL.out)
              rw [hn] at kN
              dsimp only [nextV] at kN
              clear hn
              go_wp2_with (go_at_call 11; refine kN.mono ?_; rintro e W2 ⟨rfl, h3, -⟩; have hb := hidden_ h3.below; clear h3 kN)
              go_ret
              exact ⟨rfl, hb.out⟩
            · have hlp : 0 < l := by omega
              have hl3 : l ≤ 300 := by rw [← EL.out]; have := hS.out.2.1; omega
              have hl3' : (l : Int) ≤ 300 := by omega
              have hlp' : (0 : Int) < (l : Int) := by omega
              cases hx : nextO s with
              | none =>
                have := (next_empty hS.out.1).1 hx
                have hl2 := EL.out
                rw [this] at hl2
                simp at hl2
                omega
              | some x =>
                obtain ⟨hxL, hbest, hhead⟩ := nextO_mem hx
                obtain ⟨K, hK, hKx, hKn⟩ := first_of hhead
                have hKid : ∀ j (hj : j < K), s.L[j].id ≠ x.id := fun j hj e => hKn j hj (by rw [inj_id hS.out.1.nd (List.getElem_mem _) hxL e])
                have hO : outL s.L x.id = s.L.eraseIdx K := by rw [← hKx]; exact out_at hS.out.1.nd hK
                have eN : (nextS s).L = s.L.eraseIdx K := by unfold nextS; rw [hx]; exact hO
                have hKl : K < l := by rw [← EL.out]; exact hK
                have HKn := hidden_ (And.intro hKn (And.intro hKx hKid))
                have EN := hidden_ eN
                have hOk := hidden_ hS.out.1.nextS
                have hel := hidden_ (show (nextS s).L.length = l - 1 by rw [eN, List.length_eraseIdx, if_pos hK, EL.out])
                have hki := hidden_ (fun W (o : Off w.heap.size TF W00 W) => hS.out.2.2.i)
                rw [hx] at kN
                dsimp only [nextV] at kN
                obtain ⟨⟨xt, xi, xc⟩, ex⟩ : ∃ q, x = q := ⟨_, rfl⟩
                rw [ex] at kN HKn
                dsimp only at kN HKn
                have keep : ∀ W, Off w.heap.size TF wr W → InAt w.heap.size W a c s.L := fun W o => hS.out.2.2.i.off o rfl
                clear hxL hbest hhead hKn hKx hKid hO eN hx hki ex hl0
                go_upto_region 29 with (go_at_call 11; refine kN.mono ?_; rintro e W2 ⟨rfl, h3, h4⟩; have hr := hidden_ (And.intro h3 (keep W2 h4)); clear h3 h4 kN keep)
                obtain ⟨y, e1, -⟩ := hr.out.2.cells hK
                obtain ⟨Z, eZ⟩ : ∃ Z : Addr, Z = ⟨y, 0, none⟩ := ⟨_, rfl⟩
                rw [← eZ] at e1
                subst e1
                have EZ := hidden_ eZ
                have cel : Hid (∀ V, InAt w.heap.size V (some Z) c s.L → ∀ j (hj : j < s.L.length), V.cell? ⟨(Z.add (j * 3)).block, (Z.add (j * 3)).off, none⟩ = some (.int .i64 ((s.L[j]).t : Int)) ∧ V.cell? ⟨(Z.add (j * 3)).block, (Z.add (j * 3)).off + 1, none⟩ = some (.int .i64 (s.L[j]).id) ∧ V.cell? ⟨(Z.add (j * 3)).block, (Z.add (j * 3)).off + 2, none⟩ = some (.int .i64 (s.L[j]).co) ∧ V.cell? (Z.add (j * 3)) = some (.int .i64 ((s.L[j]).t : Int))) := fun V hV j hj => by
                  obtain ⟨y', q1, q2, q3, q4, -⟩ := hV.cells hj
                  rw [EZ.out] at q1
                  obtain rfl : y = y' := by simpa using q1
                  have e' : Z.add (j * 3) = ⟨y, j * 3, none⟩ := by rw [EZ.out, add_zero_at]
                  rw [e']
                  exact ⟨q2, q3, q4, q2⟩
                clear eZ
                go_wp2
                rename World => W01
                go_loopw [17] (fun i wr3 => ∃ j : Nat, j ≤ K ∧ i = .int .i64 j ∧ wr3 = W01) (fun i _ => l - (intOf i).toNat)
                case atStart => exact ⟨0, Nat.zero_le _, rfl, rfl⟩
                case round =>
                  obtain ⟨j, hj, rfl, hw3⟩ := hrel
                  subst hw3
                  have hjl : j < l := by omega
                  have hjl' : (j : Int) < (l : Int) := by omega
                  have hlt' : j < s.L.length := by rw [EL.out]; exact hjl
                  by_cases ej : j = K
                  · subst ej
                    obtain ⟨q0, q1, q2, q3⟩ := cel.out wr hr.out.2 j hlt'
                    rw [HKn.out.2.1] at q1 q2
                    dsimp only at q1 q2
                    have v1 : (xi != xi) = false := by simp
                    have v2 : (xc != xc) = false := by simp
                    have v3 : ((j : Int) == (l : Int)) = false := by simp; omega
                    have v3' : ¬ ((j : Int) = (l : Int)) := by omega
                    clear q0 q3
                    obtain ⟨P, eP⟩ : ∃ P, Z.add (j * 3) = P := ⟨_, rfl⟩
                    rw [eP] at q1 q2
                    go_wp2
                    clear q1 q2 eP v1 v2 v3 v3'
                    rename World => W02
                    go_loopw [18] (fun i wr4 => ∃ n : Nat, n ≤ j ∧ i = .int .i64 n ∧ Hid (FrIn w.heap.size w wr4 f (nextS s) ∧ InAt w.heap.size wr4 (some Z) c s.L)) (fun i _ => l - (intOf i).toNat)
                    case atStart => exact ⟨0, Nat.zero_le _, rfl, hr.out⟩
                    case round =>
                      clear hr
                      obtain ⟨n, hn, rfl, hr⟩ := hrel
                      by_cases hnj : n < j
                      · have hnl : (n : Int) < (l : Int) := by omega
                        have hnj' : (n : Int) < (j : Int) := by omega
                        have hnl2 : n < l := by omega
                        have hn' : n < s.L.length := by omega
                        obtain ⟨q0, q1, q2, q3⟩ := cel.out wr hr.out.2 n hn'
                        obtain ⟨p0, p1, p2, p3⟩ := cel.out wr hr.out.2 j hlt'
                        rw [HKn.out.2.1] at p0 p3
                        dsimp only at p0 p3
                        have hne := HKn.out.1 n hnj
                        have hx0 : ¬ (s.L[n].t : Int) = (xt : Int) := by omega
                        obtain ⟨T0, eT0⟩ : ∃ T0 : Int, (s.L[n].t : Int) = T0 := ⟨_, rfl⟩
                        obtain ⟨T1, eT1⟩ : ∃ T1 : Int, (xt : Int) = T1 := ⟨_, rfl⟩
                        rw [eT0] at q0 q3 hx0
                        rw [eT1] at p0 p3 hx0
                        have v : (T0 == T1) = false := by simp [hx0]
                        obtain ⟨P, eP⟩ : ∃ P, Z.add (n * 3) = P := ⟨_, rfl⟩
                        obtain ⟨R, eR⟩ : ∃ R, Z.add (j * 3) = R := ⟨_, rfl⟩
                        rw [eP] at q0 q3
                        rw [eR] at p0 p3
                        have hD : Hid (FrIn w.heap.size w wr.drew f (nextS s) ∧ InAt w.heap.size wr.drew (some Z) c s.L) := ⟨hr.out.1.more (below_drew (Below.refl _ _) ⟨1, rfl⟩), hr.out.2.below (below_drew (Below.refl _ _) ⟨1, rfl⟩)⟩
                        clear q1 q2 p1 p2 hne hx0 eT0 eT1 hr
                        go_upto_region 37 with fail
                        go_region
                        go_wp2
                        go_roundw
                        case rel => exact ⟨n + 1, by omega, by go_num, hD⟩
                        case measure => simp [intOf]; omega
                      · have e : n = j := by omega
                        subst e
                        obtain ⟨gg, X, va, vc, V2, da, dc, V3, h1, h2, h3, h4, h5, h6, h7, h8, h9⟩ := hr.out.2.cut hlt' (by rw [EL.out]; have := hS.out.2.1; rw [EL.out] at this; omega) (by obtain ⟨g, A, hF⟩ := hr.out.1.at_; exact hF.lt.2.2)
                        have hfin := hidden_ (show FrOk (m + 1) (nextS s) ∧ m + 1 + (nextS s).L.length ≤ 300 ∧ Oz w.heap.size w V3 f (nextS s) da dc from ⟨hOk.out, by rw [hel.out]; have := hS.out.2.1; rw [EL.out] at this; omega, hr.out.1.more h8, by rw [EN.out]; exact h7.mono (by obtain ⟨g, A, hF⟩ := hr.out.1.at_; exact hF.lt.2.2)⟩)
                        have eZ2 : Z = ⟨gg, 0, none⟩ := by simpa using h1
                        have heL : (s.L.eraseIdx n).length = l - 1 := by rw [← EN.out]; exact hel.out
                        have heN : (nextS s).L.length = l - 1 := hel.out
                        rw [heL] at h6
                        rw [EL.out] at h2 h6
                        obtain ⟨J, eJ⟩ : ∃ J : Nat, n + 1 = J := ⟨_, rfl⟩
                        rw [eJ] at h6 h9
                        rw [← add_zero_at gg (J * 3), ← eZ2] at h9
                        rw [← eZ2] at h5
                        obtain ⟨d, ed⟩ : ∃ d : Nat, l - J = d := ⟨_, rfl⟩
                        have ed' : l - J = d := ed
                        rw [ed] at h6
                        have j1 : (n : Int) + 1 = (J : Int) := by omega
                        have j2 : (J : Int) ≤ (l : Int) := by omega
                        have j3 : (n : Int) ≤ (l : Int) := by omega
                        have j4 : J ≤ 301 := by omega
                        have j8 : (0 : Int) ≤ (J : Int) := by omega
                        have j9 : IntKind.i64.wrap (J : Int) = (J : Int) := wrap_id (by omega) (by omega)
                        have j5 : n ≤ c := by omega
                        have j6 : J ≤ c := by omega
                        have j7 : (n : Int) ≤ (c : Int) := by omega
                        have HL1 := hidden_ heN
                        clear h1 h4 h7 h8 eZ2 heL heN eJ ed hr hlt' hel
                        go_upto_region 39 with fail
                        go_region_law (first
                          | refine step_append_run2 rfl (.tmp 164) (.tmp 167) 45 rfl 45 rfl _ _ (by simp [Act.eval, Act.put]) (by simp [Act.eval, Act.put]) _ _ h5 ?_
                          | refine step_append_run2 rfl (.tmp 168) (.tmp 172) 45 rfl 45 rfl _ _ (by simp [Act.eval, Act.put]) (by simp [Act.eval, Act.put]) _ _ h6 ?_)
                        simp only [List.getElem_toArray, List.getElem_cons_succ, List.getElem_cons_zero, Act.put, List.setIfInBounds_toArray, List.set_cons_succ, List.set_cons_zero]
                        go_wp2
                        go_roundw
                        case rel => exact ⟨nextS s, da, dc, m + 1, by rw [HL1.out], hfin.out⟩
                        case measure => simp [lenV]; omega
                  · obtain ⟨q0, q1, q2, q3⟩ := cel.out wr hr.out.2 j hlt'
                    have hne := HKn.out.2.2 j (by omega)
                    obtain ⟨X, eX⟩ : ∃ X, s.L[j].id = X := ⟨_, rfl⟩
                    rw [eX] at q1 hne
                    have v1 : (X != xi) = true := by simp [hne]
                    obtain ⟨P, eP⟩ : ∃ P, Z.add (j * 3) = P := ⟨_, rfl⟩
                    rw [eP] at q1
                    clear q0 q2 q3 eX hne hlt'
                    go_wp2
                    go_roundw
                    case rel => exact ⟨j + 1, by omega, by go_num, trivial⟩
                    case measure => simp [intOf]; omega

theorem contract (H : Type) (enc : TypeId × Value → H) (W : World) (base : Nat) (args : Array Value) (ds gs : List (DataW H)) (before : List MemPlace)
    (hval0 : ∀ (j : Nat) t v, Try.f5.params[j]? = some t → args[j]? = some v → Value.okWide Try.prog W .any base t v)
    (hW : DataW.Whole enc Try.prog Try.f5.params.toList Rows.fairOrderSpec.vars false W args.toList ds gs before)
    (hsz0 : (DataW.weightsEach Try.prog (Try.f5.params.toList ++ Rows.fairOrderSpec.plain.varTypes Try.prog) (ds ++ gs)).all (· ≤ reachBytes) = true) :
    Calls Try.prog 5 args W fun e W' => ∃ v, e = .returned v ∧ Rows.fairOrderSpec.post enc Try.prog Try.f5 false true false false W args v W' := by
  have hval : ∀ (j : Nat) t v, Try.f5.params[j]? = some t → args[j]? = some v → Value.okWide Try.prog W .any base t v := hval0
  have hW' := hW
  obtain ⟨p, q, hA0, hV, rfl, hfz, hnd⟩ := hW
  have hA : DataW.TrodAll enc Try.prog W 0 (fun _ => true) true Try.f5.params.toList args.toList ds p := hA0
  have hsz : (DataW.weightsEach Try.prog (Try.f5.params.toList ++ Rows.fairOrderSpec.plain.varTypes Try.prog) (ds ++ gs)).all (· ≤ reachBytes) = true := hsz0
  rw [Try.params5] at hA hval hsz
  obtain ⟨v0, vs0, d0, ds0, p0, q0, hargs, rfl, rfl, h0, r0⟩ := trodAll_cons hA
  obtain ⟨v1, vs1, d1, ds1, p1, q1, rfl, rfl, rfl, h1, r1⟩ := trodAll_cons r0
  obtain ⟨rfl, rfl, rfl⟩ := trodAll_nil r1
  obtain rfl : args = #[v0, v1] := by cases args; simp_all
  obtain ⟨rfl, rfl⟩ := trodVars_none hV
  obtain ⟨a0, n0, c0, rfl⟩ := okWide_slice Try.underlying22 (hval 0 22 v0 rfl rfl)
  have k0 := h0
  have lt0 : ∀ x ∈ p0, x.block < W.heap.size := by obtain ⟨m, hm⟩ := k0; exact DataW.trod_lt m _ _ _ hm
  obtain ⟨z0, w0, e0, l0, s0⟩ : ∃ zs, Reads .i64 W a0 n0 zs ∧ (a0 = none → c0 = 0) ∧ n0 ≤ c0 ∧ (n0 = 0 ∨ ∃ el sp, d0 = .slice el sp ∧ n0 ≤ el.length + sp.length) := by
    obtain ⟨fuel, hf⟩ := h0
    rcases open_ints Try.underlying22 Try.underlying3 (by kernel_rfl) hf with ⟨hcs, hd⟩ | ⟨x, l, c, zs, hcs, _, hl, hm, hz, hd, hcell, hwz⟩
    · simp [Value.cells] at hcs
      obtain ⟨rfl, rfl, rfl⟩ := hcs
      exact ⟨[], Reads.nil _ _, fun _ => rfl, Nat.le_refl _, .inl rfl⟩
    · simp [Value.cells] at hcs
      obtain ⟨rfl, rfl, rfl⟩ := hcs
      exact ⟨_, Reads.of_open hl hm (by simpa using hz) hcell hwz, (fun h => by cases h), hl, .inr ⟨_, _, congrArg Prod.fst hd, open_length (by simpa using hz) hl⟩⟩
  obtain ⟨a1, n1, c1, rfl⟩ := okWide_slice Try.underlying23 (hval 1 23 v1 rfl rfl)
  have k1 := h1
  have lt1 : ∀ x ∈ p1, x.block < W.heap.size := by obtain ⟨m, hm⟩ := k1; exact DataW.trod_lt m _ _ _ hm
  obtain ⟨O1, w1, e1, l1⟩ := open_ops h1
  have b0 : n0 * 8 ≤ 140737488351232 := by
    rcases s0 with rfl | ⟨el, sp, rfl, hle⟩
    · decide
    · have := sized_slice hsz (j := 0) (t := 22) (e := 3) rfl rfl Try.underlying22
      rw [bytes3] at this
      simp only [reachBytes] at this
      omega
  clear hA0 hval0
  refine (walk a0 n0 c0 z0 a1 n1 c1 O1 W w0 e0 l0 w1 e1 l1 b0).mono fun e W' ⟨he, bel⟩ => ?_
  subst he
  exact ⟨_, rfl, _, _, _, [], _, [], hW', trodAll_mk1 (shut_bool Try.underlying4 _), (trodAll_cons_mk (Below.trod laidOut (by kernel_rfl) (of_decide_eq_true (by kernel_rfl)) k0 bel lt0) (trodAll_cons_mk (Below.trod laidOut (by kernel_rfl) (of_decide_eq_true (by kernel_rfl)) k1 bel lt1) trodAll_mk0)), rfl, bel.frame _, fun h => by cases h⟩

set_option maxRecDepth 100000 in
theorem lifted (os : Os) (started : os.Started) (H : Type) (enc : TypeId × Value → H) :
    ReturnsInHanded {} Try.checked os 5 .any (Rows.fairOrderSpec.pre6 enc Try.prog Try.f5 Rows.fairOrderRow.domain false) (Rows.fairOrderSpec.post enc Try.prog Try.f5 false true false false) := by
  refine returnsInHanded_of_change_sized (C := Try.checked) own started (by kernel_rfl) Try.func5
    (ChangeSpec.witness6 (enc := enc) (C := Try.checked) false ⟨#[], #[.slice none 0 0, .slice none 0 0], []⟩ 8 (by kernel_rfl) (by kernel_rfl) (by kernel_rfl) (by kernel_rfl)) ?_
  intro W base args ds gs before hval hW _ hsz _
  exact contract H enc W base args ds gs before hval hW hsz

theorem over : Rows.fairOrderRow.holds Try.pinned (OpenSpec.ofChange Rows.fairOrderSpec) :=
  OpenClaim.holds_of_wide 5 Try.f5 rfl rfl rfl rfl rfl rfl rfl ⟨rfl, rfl, rfl, rfl, rfl⟩ rfl rfl rfl rfl rfl (by kernel_rfl) Try.func5 (by kernel_rfl)
    (of_decide_eq_true (by kernel_rfl)) (by unfold Func.isWrapper; first | (rw [if_pos (by decide +kernel)]; kernel_rfl) | (rw [if_neg (by decide +kernel)]; exact ⟨rfl, rfl⟩))
    (fun os started H enc _ => lifted os started H enc)

theorem proved : Rows.FairOrderSaid :=
  over
#print axioms proved
end Go.Proofs.Ytkjmlbllpnehlaa.fairOrder
