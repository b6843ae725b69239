/- What the document's one head gives back: contracts of the calls. -/
import Derived.Test.YthbddbipmoflfaaRows
import Derived.Test.YthbddbipmoflfaaSat
import Derived.Test.YthbddbipmoflfaaSatRef
import Derived.Test.YthbddbipmoflfaaAdds
import Derived.Test.YthbddbipmoflfaaView
import Derived.Test.YthbddbipmoflfaaOwn
import Derived.Test.YthbddbipmoflfaaRoot
import Derived.Test.YthbddbipmoflfaaRef
import Derived.Test.YthbddbipmoflfaaDots
import Derived.Test.YthbddbipmoflfaaDotsRef
import Derived.Test.YthbddbipmoflfaaSoft
import Derived.Test.YthbddbipmoflfaaSoftRef
import Derived.Test.YthbddbipmoflfaaMean
import Derived.Test.YthbddbipmoflfaaAtPlain
import Derived.Test.YthbddbipmoflfaaAtShapes
import Derived.WalkKit
import Derived.ProofKit
import Derived.OpenShut
import Derived.Below
import Derived.WalkLawsBesides
import Derived.Deep.QuietTactic
import Derived.BigQuiet
namespace Go.Proofs.Ythbddbipmoflfaa
open Go.ChangeShapes Go.WideShapes Go.ChangeAt Go.RowKit
set_option linter.unusedVariables false

theorem len_mul' (d : Nat) (hb : d * 8 ≤ 140737488355328) : 0 ≤ (d : Int) * 65536 ∧ (d : Int) * 65536 ≤ 9223372036854775807 := by omega

set_option maxHeartbeats 2000000 in
theorem refHead_yes (a0 : Option Addr) (d c0 : Nat) (q : List Int) (a1 : Option Addr) (n c1 : Nat) (A : Nat → Option Addr) (C : Nat → Nat) (K : Nat → List Int) (a2 : Option Addr) (c2 : Nat) (A' : Nat → Option Addr) (C' : Nat → Nat) (V : Nat → List Int) (w : World)
    (h0 : Reads .i64 w a0 d q) (h1 : Grid w a1 n A C K) (h2 : Grid w a2 n A' C' V) (hd : 0 < d) (hn : 0 < n) (hr : ∀ r, r < n → (K r).length = d ∧ (V r).length = d) (hb0 : d * 8 ≤ 140737488351232) (hb1 : n * 8 ≤ 140737488351232) :
    Calls Try.prog 11 #[.slice a0 d c0, .slice a1 n c1, .slice a2 n c2] w fun e w' => (∃ a c, e = .returned (.tuple #[.slice a d c, .int .i64 0]) ∧ Reads .i64 w' a d (headZ q K V d n) ∧ (a = none → c = 0)) ∧ Below w.heap.size w w' := by
  obtain ⟨i0, hi, hz0, hz1, hz2⟩ := info_parts info2
  have hm := h0.max
  have hm1 := h1.max
  have lm := len_mul' d (by omega)
  have kf := shapes_yes a0 d c0 a1 n c1 A C K a2 c2 A' C' V w h1 h2 hd hn hr
  have kr := refRsqrt_call ((d : Int) * 65536)
  have wr' := wf_rsqrtZ ((d : Int) * 65536)
  have ef : ∀ i, scoreF q K d i = mulZ (dotZ q (K i) 16) (rsqrtZ ((d : Int) * 65536)) := fun _ => rfl
  obtain ⟨S, eS⟩ : ∃ S, rsqrtZ ((d : Int) * 65536) = S := ⟨_, rfl⟩
  rw [eS] at kr wr'
  simp only [eS] at ef
  clear eS
  have sl := softZ_bounds (scoresZ q K d n) n
  have eh : headZ q K V d n = (List.range d).map (blendZ (softZ (scoresZ q K d n) n) V n) := rfl
  have wh := wf_headZ q K V d n
  have lh := headZ_length q K V d n
  have kso := fun (W : World) a c (h : Reads .i64 W a n (scoresZ q K d n)) => refSoft_call a n c (scoresZ q K d n) W h (by omega)
  obtain ⟨s, es⟩ : ∃ s, softZ (scoresZ q K d n) n = s := ⟨_, rfl⟩
  rw [es] at sl eh
  simp only [es] at kso
  clear es
  go_enter Try.func11, Try.ntmps11
  go_wp2_with (first
    | (go_at_call 23; refine kf.mono ?_; rintro e w' ⟨rfl, h⟩; obtain rfl := h.symm; clear kf)
    | (go_at_call 24; refine (kr _).mono ?_; rintro e w' ⟨rfl, h⟩; obtain rfl := h.symm))
  go_loopw [9, 10] (fun v i wr => ∃ k : Nat, k ≤ n ∧ i = .int .i64 k ∧ Below w.heap.size w wr ∧ wr.ownsRow w.heap.size 2 1 v k (gath (scoreF q K d) .i64 k)) (fun _ i _ => n - (intOf i).toNat)
  case atStart => exact ⟨0, Nat.zero_le _, rfl, Below.refl _ _, World.ownsRow_nil _ _ _ _⟩
  case round =>
    obtain ⟨k, hk, rfl, hbr, ho⟩ := hrel
    by_cases hlt : k < n
    · have hg := h1.below hbr
      obtain ⟨x, rfl⟩ := h1.some_ (by omega)
      have cx := hg.cell x rfl k hlt
      have rk := hg.row k hlt
      rw [(hr k hlt).1] at cx rk
      have ki := refInner_call a0 d c0 q (A k) d (C k) (K k) wr (h0.below hbr) rk
      simp only [if_true] at ki
      have wd := wf_dotZ q (K k) 16
      have efk := ef k
      obtain ⟨D, eD⟩ : ∃ D, dotZ q (K k) 16 = D := ⟨_, rfl⟩
      rw [eD] at ki wd efk
      have km := fun W => refMul_call D S wd wr' W
      rw [← efk] at km
      obtain ⟨E, eE⟩ : ∃ E, scoreF q K d k = E := ⟨_, rfl⟩
      rw [eE] at km
      have Ez : Hid (E = scoreF q K d k) := eE.symm
      clear eE efk eD ef hg rk h1 h0 hr kr h2 kso sl eh wh lh
      go_wp2_with (first
        | (go_at_call 25; refine ki.mono ?_; rintro e W2 ⟨rfl, hq⟩
           have hb2 := below_drew (Below.refl wr.heap.size wr) hq
           have ho2 := own_below ho hb2
           have hbr2 := below_then hbr hb2
           have hsz2 := hbr2.size
           clear hb2 hq ki ho hbr)
        | (go_at_call 26; refine (km _).mono ?_; rintro e w' ⟨rfl, h⟩; obtain rfl := h.symm)
        | (at_builtin; refine wpList_append_own _ rfl (.tmp 42) (.tmp 46) 22 rfl w.heap.size 2 i0 (.int .i64 0) 1 8 Try.underlying22 hi hz0 hz1 hz2 rfl (by decide) _ _ _ rfl (ho2.alloc _) ⟨_, 0, none⟩ 1 1 [.int .i64 E] rfl rfl (one_new _ _ _) (one_oneCell _ _) (by unfold maxLen; omega) (by omega) (by simp; omega) ?_; intro v' w1 ho' hg _))
      go_roundw
      case rel => exact ⟨k + 1, by omega, by go_num, append_step hsz2 Ez.out hbr2 ho2 ho' hg⟩
      case measure => simp [intOf]; omega
    · have e : k = n := by omega
      subst e
      rename World => W1
      obtain ⟨ta, tc, rfl, rt⟩ := own_reads (zs := scoresZ q K d k) ho (scoresZ_length ..) (fun z hz => by obtain ⟨y, _, rfl⟩ := List.mem_map.1 hz; exact wf_mulZ _ _) (fun i hi => by rw [gath_at _ _ _ _ hi]; simp [scoresZ, hi])
      have ks := kso W1 ta tc rt
      clear ho kso rt ef
      go_wp2_with (first
        | (go_at_call 27; refine ks.mono ?_; rintro e W2 ⟨⟨sa, sc, rfl, r2⟩, b2⟩; replace b2 := below_then hbr b2; clear ks hbr))
      have g2 := h2.below b2
      clear h2 h1 h0
      go_loopw [14, 15] (fun v i wr => ∃ j : Nat, j ≤ d ∧ i = .int .i64 j ∧ Below W2.heap.size W2 wr ∧ wr.ownsRow W2.heap.size 2 1 v j (gath (blendZ s V k) .i64 j)) (fun _ i _ => d - (intOf i).toNat)
      case atStart => exact ⟨0, Nat.zero_le _, rfl, Below.refl _ _, World.ownsRow_nil _ _ _ _⟩
      case round =>
        obtain ⟨j, hj, rfl, hbr, ho⟩ := hrel
        by_cases hlt : j < d
        · have rs := r2.below hbr
          have gv := g2.below hbr
          have hsz := hbr.size
          rename World => W3
          clear eh wh lh kr wr'
          go_wp2
          go_loopw [16, 17] (fun b i wr => ∃ l : Nat, l ≤ k ∧ i = .int .i64 l ∧ b = .int .i64 (blendTo s V j l) ∧ ∃ m, wr = W3.drewN m) (fun _ i _ => k - (intOf i).toNat)
          case atStart => exact ⟨0, Nat.zero_le _, rfl, rfl, 0, rfl⟩
          case round =>
            obtain ⟨l, hl, rfl, rfl, m, hw⟩ := hrel
            by_cases hlt' : l < k
            · obtain ⟨x, rfl⟩ := rs.some_ (by omega)
              obtain ⟨y, rfl⟩ := gv.some_ (by omega)
              have cx : wr.cell? (x.add l) = some (.int .i64 (s.getD l 0)) := by rw [hw]; exact rs.cell x rfl l hlt'
              have rk := gv.row l hlt'
              have cy : wr.cell? (y.add l) = some (.slice (A' l) d (C' l)) := by rw [hw, ← (hr l hlt').2]; exact gv.cell y rfl l hlt'
              rw [(hr l hlt').2] at rk
              obtain ⟨z, ez⟩ := rk.some_ (by omega)
              have cz : wr.cell? (z.add j) = some (.int .i64 ((V l).getD j 0)) := by rw [hw]; exact rk.cell z ez j hlt
              rw [ez] at cy
              have es : blendTo s V j (l + 1) = addZ (blendTo s V j l) (s.getD l 0 * clampZ ((V l).getD j 0)) := rfl
              have ws := wf_blendTo s V j l
              have bs := sl l
              obtain ⟨X, eX⟩ : ∃ X, s.getD l 0 = X := ⟨_, rfl⟩
              obtain ⟨Y, eY⟩ : ∃ Y, (V l).getD j 0 = Y := ⟨_, rfl⟩
              obtain ⟨T, eT⟩ : ∃ T, blendTo s V j l = T := ⟨_, rfl⟩
              rw [eX] at cx es bs
              rw [eY] at cz es
              rw [eT] at es ws ⊢
              have bc := clampZ_bounds Y
              have bp := prodD_bounds _ _ bs bc
              have wp : (Lit.int .i64 (X * clampZ Y)).wf = true := WalkArith.wf_i64 ⟨by omega, by omega⟩
              have Es : Hid (blendTo s V j (l + 1) = addZ T (X * clampZ Y)) := es
              have Hw : Hid (wr = W3.drewN m) := hw
              clear eX eY eT es rk hw rs gv hr sl g2 r2 hbr ho b2 hi hz0 hz1 hz2 ez hn
              go_wp2
              go_quiet (first | (go_at_call 18; refine Calls.quiet_of_same (refClamp_call _ _)) | (go_at_call 28; refine Calls.quiet_of_same (refAdd_call _ _ ws wp _)))
              go_wp2
              go_roundw
              case rel => exact ⟨l + 1, by omega, by go_num, by rw [Es.out], _, by rw [Hw.out, World.drewN_drewN]⟩
              case measure => simp [intOf]; omega
            · have e : l = k := by omega
              subst e
              have ws := wf_blendTo s V j l
              have hq := below_drew (Below.refl W3.heap.size W3) ⟨m, hw⟩
              have ho2 := own_below ho hq
              have hbr2 := below_then hbr hq
              have hsz2 := hbr2.size
              have ksh := fun W => refShift_call (blendTo s V j l) 16 ws (by decide) W
              have kcl := fun W => refClamp_call (shiftZ (blendTo s V j l) 16) W
              have eb : clampZ (shiftZ (blendTo s V j l) 16) = blendZ s V l j := rfl
              obtain ⟨T, eT⟩ : ∃ T, blendTo s V j l = T := ⟨_, rfl⟩
              rw [eT] at eb ⊢
              simp only [eT] at ksh kcl
              obtain ⟨U, eU⟩ : ∃ U, shiftZ T 16 = U := ⟨_, rfl⟩
              rw [eU] at eb
              simp only [eU] at ksh kcl
              obtain ⟨E, eE⟩ : ∃ E, clampZ U = E := ⟨_, rfl⟩
              rw [eE] at eb
              simp only [eE] at kcl
              have Ez : Hid (E = blendZ s V l j) := eb
              clear eE eU eT eb hw hq ho hbr rs gv hr sl g2 r2 ws
              go_wp2_with (first
                | (go_at_call 29; refine (ksh _).mono ?_; rintro e w' ⟨rfl, h⟩; obtain rfl := h.symm)
                | (go_at_call 18; refine (kcl _).mono ?_; rintro e w' ⟨rfl, h⟩; obtain rfl := h.symm)
                | (at_builtin; refine wpList_append_own _ rfl (.tmp 77) (.tmp 81) 22 rfl W2.heap.size 2 i0 (.int .i64 0) 1 8 Try.underlying22 hi hz0 hz1 hz2 rfl (by decide) _ _ _ rfl (ho2.alloc _) ⟨_, 0, none⟩ 1 1 [.int .i64 E] rfl rfl (one_new _ _ _) (one_oneCell _ _) (by unfold maxLen; omega) (by omega) (by simp; omega) ?_; intro v' w1 ho' hg _))
              go_roundw
              case rel => exact ⟨j + 1, by omega, by go_num, append_step hsz2 Ez.out hbr2 ho2 ho' hg⟩
              case measure => simp [intOf]; omega
        · have e : j = d := by omega
          subst e
          obtain ⟨a, c, rfl, hR⟩ := own_reads (zs := headZ q K V j k) ho lh wh (fun i hi => by rw [gath_at _ _ _ _ hi, eh]; simp [hi])
          have hend := below_then b2 hbr
          have hnone : a = none → c = 0 := fun h => by
            obtain ⟨x, hx⟩ := hR.some_ hd
            rw [hx] at h
            cases h
          clear ho hbr
          go_wp2
          go_ret2
          exact ⟨⟨_, _, rfl, hR, hnone⟩, hend⟩

theorem refHead_no (a0 : Option Addr) (d c0 : Nat) (a1 : Option Addr) (n c1 : Nat) (A : Nat → Option Addr) (C : Nat → Nat) (K : Nat → List Int) (a2 : Option Addr) (m c2 : Nat) (A' : Nat → Option Addr) (C' : Nat → Nat) (V : Nat → List Int) (w : World)
    (h1 : Grid w a1 n A C K) (h2 : Grid w a2 m A' C' V) (hf : fitB d n m K V = false) :
    Calls Try.prog 11 #[.slice a0 d c0, .slice a1 n c1, .slice a2 m c2] w fun e w' => e = .returned (.tuple #[.slice none 0 0, .int .i64 21]) ∧ w' = w := by
  have kf := shapes_no a0 d c0 a1 n c1 A C K a2 m c2 A' C' V w h1 h2 hf
  go_enter Try.func11, Try.ntmps11
  go_wp2_with (go_at_call 23; refine kf.mono ?_; rintro e w' ⟨rfl, h⟩; obtain rfl := h.symm)
  go_ret2
  exact ⟨rfl, rfl⟩

theorem refHead_call (a0 : Option Addr) (d c0 : Nat) (q : List Int) (a1 : Option Addr) (n c1 : Nat) (A : Nat → Option Addr) (C : Nat → Nat) (K : Nat → List Int) (a2 : Option Addr) (m c2 : Nat) (A' : Nat → Option Addr) (C' : Nat → Nat) (V : Nat → List Int) (w : World)
    (h0 : Reads .i64 w a0 d q) (h1 : Grid w a1 n A C K) (h2 : Grid w a2 m A' C' V) (hb0 : d * 8 ≤ 140737488351232) (hb1 : n * 8 ≤ 140737488351232) :
    Calls Try.prog 11 #[.slice a0 d c0, .slice a1 n c1, .slice a2 m c2] w fun e w' => (∃ a k c, e = .returned (.tuple #[.slice a k c, .int .i64 (headE d n m K V)]) ∧ Reads .i64 w' a k (headR q K V d n m) ∧ (a = none → c = 0)) ∧ Below w.heap.size w w' := by
  unfold headE headR
  cases hf : fitB d n m K V with
  | true =>
    simp only [if_true]
    obtain ⟨hd, hn, rfl, hr⟩ := (fitB_iff ..).1 hf
    exact (refHead_yes _ _ _ _ _ _ _ _ _ _ _ _ _ _ _ _ h0 h1 h2 hd hn hr hb0 hb1).mono fun e w' ⟨⟨a, c, he, hr, hc⟩, hw⟩ => ⟨⟨a, _, c, he, hr, hc⟩, hw⟩
  | false =>
    simp only [Bool.false_eq_true, if_false]
    exact (refHead_no _ _ _ _ _ _ _ _ _ _ _ _ _ _ _ _ h1 h2 hf).mono fun e w' ⟨he, hw⟩ => ⟨⟨none, 0, 0, he, Reads.nil _ _, fun _ => rfl⟩, hw ▸ Below.refl _ _⟩

end Go.Proofs.Ythbddbipmoflfaa
