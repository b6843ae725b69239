/- What the program's one head gives back: contracts of the calls. -/
import Derived.Test.YthbddbipmoflfaaRows
import Derived.Test.YthbddbipmoflfaaSat
import Derived.Test.YthbddbipmoflfaaAdds
import Derived.Test.YthbddbipmoflfaaView
import Derived.Test.YthbddbipmoflfaaOwn
import Derived.Test.YthbddbipmoflfaaRoot
import Derived.Test.YthbddbipmoflfaaDots
import Derived.Test.YthbddbipmoflfaaSoft
import Derived.Test.YthbddbipmoflfaaMean
import Derived.Test.YthbddbipmoflfaaAtPlain
import Derived.Test.YthbddbipmoflfaaAtFits
import Derived.Test.YthbddbipmoflfaaAtFitsNo
import Derived.WalkKit
import Derived.ProofKit
import Derived.OpenShut
import Derived.Below
import Derived.WalkLawsBesides
import Derived.Deep.QuietTactic
import Derived.BigQuiet
namespace Go.Proofs.Ythbddbipmoflfaa
open Go.ChangeShapes Go.WideShapes Go.ChangeAt Go.RowKit
set_option linter.unusedVariables false

theorem len_mul (d : Nat) (hb : d * 8 ≤ 140737488355328) : 0 ≤ (d : Int) * 65536 ∧ (d : Int) * 65536 ≤ 9223372036854775807 := by omega

theorem scores_call (a0 : Option Addr) (d c0 : Nat) (q : List Int) (a1 : Option Addr) (n c1 : Nat) (A : Nat → Option Addr) (C : Nat → Nat) (K : Nat → List Int) (w : World)
    (h0 : Reads .i64 w a0 d q) (h1 : Grid w a1 n A C K) (hr : ∀ r, r < n → (K r).length = d) (hb0 : d * 8 ≤ 140737488355328) (hb1 : n * 8 ≤ 140737488355328) :
    Calls Try.prog 21 #[.slice a0 d c0, .slice a1 n c1] w fun e w' => (∃ a c, e = .returned (.slice a n c) ∧ Reads .i64 w' a n (scoresZ q K d n)) ∧ Below w.heap.size w w' := by
  obtain ⟨i0, hi, hz0, hz1, hz2⟩ := info_parts info2
  have hm := h1.max
  have lm := len_mul d hb0
  have kr := rsqrt_call ((d : Int) * 65536)
  have wr' := wf_rsqrtZ ((d : Int) * 65536)
  have ef : ∀ i, scoreF q K d i = mulZ (dotZ q (K i) 16) (rsqrtZ ((d : Int) * 65536)) := fun _ => rfl
  obtain ⟨S, eS⟩ : ∃ S, rsqrtZ ((d : Int) * 65536) = S := ⟨_, rfl⟩
  rw [eS] at kr wr'
  simp only [eS] at ef
  clear eS
  go_enter Try.func21, Try.ntmps21
  go_wp2_with (first
    | (go_at_call 37; refine (kr _).mono ?_; rintro e w' ⟨rfl, h⟩; obtain rfl := h.symm)
    | (at_make; refine wpList_make_full _ rfl (.tmp 16) (.tmp 16) 22 rfl w.heap.size 2 i0 (.int .i64 0) 1 Try.underlying22 hi hz0 hz1 .i64 .i64 _ _ n rfl rfl rfl rfl (by rw [hz2]; omega) (by unfold maxLen; omega) (Nat.le_refl _) ?_; intro w1 hown hgrow))
  have hbel : Below w.heap.size w w1 := (Below.refl _ _).grown hgrow (Nat.le_refl _) (fun k h => by cases h)
  go_wp2
  go_loopw [20] (fun i wr => ∃ k : Nat, k ≤ n ∧ i = .int .i64 k ∧ Below w.heap.size w wr ∧ ∃ cs, wr.ownsRow w.heap.size 2 1 (.slice (some ⟨w.heap.size, 0, none⟩) n n) n cs ∧ ∀ j, j < k → cs[j]? = some (.int .i64 (scoreF q K d j))) (fun i _ => n - (intOf i).toNat)
  case atStart => exact ⟨0, Nat.zero_le _, rfl, hbel, _, hown, fun j hj => by omega⟩
  case round =>
    obtain ⟨k, hk, rfl, hbr, cs, ho, hcs⟩ := hrel
    by_cases hlt : k < n
    · have hg := h1.below hbr
      obtain ⟨x, rfl⟩ := h1.some_ (by omega)
      have cx := hg.cell x rfl k hlt
      have rk := hg.row k hlt
      rw [hr k hlt] at cx rk
      have ki := inner_call a0 d c0 q (A k) d (C k) (K k) wr (h0.below hbr) rk
      simp only [if_true] at ki
      have wd := wf_dotZ q (K k) 16
      have hlen := own_length ho
      have efk := ef k
      obtain ⟨D, eD⟩ : ∃ D, dotZ q (K k) 16 = D := ⟨_, rfl⟩
      rw [eD] at ki wd efk
      have km := fun W => mul_call D S wd wr' W
      rw [← efk] at km
      have step := fun (W : World) (hs : W.ownsRow w.heap.size 2 1 (.slice (some ⟨w.heap.size, 0, none⟩) n n) n cs) => And.intro (hs.stored k (.int .i64 (scoreF q K d k))).1 (set_step (F := fun j => Value.int .i64 (scoreF q K d j)) hlen hlt rfl hcs)
      obtain ⟨u, hu⟩ : ∃ u, cs[k]? = some u := ⟨cs[k], by simp [hlen, hlt]⟩
      obtain ⟨E, eE⟩ : ∃ E, scoreF q K d k = E := ⟨_, rfl⟩
      rw [eE] at km step
      clear eE efk eD ef hg rk hown hgrow hbel hi hz0 hz1 hz2 h1 h0 hr kr hcs
      go_wp2_with (first
        | (go_at_call 38; refine ki.mono ?_; rintro e W2 ⟨rfl, hq⟩
           have hb2 := below_drew (Below.refl wr.heap.size wr) hq
           have ho2 := own_below ho hb2
           have cell2 : W2.cell? ⟨w.heap.size, k, none⟩ = some u := (ho2.cellAt k (by omega)).trans hu
           have froz2 := ho2.frozenAt k
           have st2 := step W2 ho2
           have R : Hid (Below w.heap.size w (W2.setCell ⟨w.heap.size, k, none⟩ (.int .i64 E)) ∧ ∃ cs', (W2.setCell ⟨w.heap.size, k, none⟩ (.int .i64 E)).ownsRow w.heap.size 2 1 (.slice (some ⟨w.heap.size, 0, none⟩) n n) n cs' ∧ ∀ j, j < k + 1 → cs'[j]? = some (.int .i64 (scoreF q K d j))) :=
             ⟨(below_then hbr hb2).setCell (Nat.le_refl _) _, _, st2.1, st2.2⟩
           clear ho2 st2 hb2 hq ki)
        | (go_at_call 39; refine (km _).mono ?_; rintro e w' ⟨rfl, h⟩; obtain rfl := h.symm))
      go_roundw
      case rel => exact ⟨k + 1, by omega, by go_num, R.out⟩
      case measure => simp [intOf]; omega
    · have e : k = n := by omega
      subst e
      have fin := own_reads_at (zs := scoresZ q K d k) ho (scoresZ_length ..) (fun z hz => by obtain ⟨y, _, rfl⟩ := List.mem_map.1 hz; exact wf_mulZ _ _) (fun i hi => by rw [hcs i hi]; simp [scoresZ, hi])
      clear hcs ho
      go_wp2
      go_ret
      exact ⟨⟨_, _, rfl, fin⟩, hbr⟩

theorem blend_call (a0 : Option Addr) (n c0 : Nat) (s : List Int) (a2 : Option Addr) (m c2 : Nat) (A : Nat → Option Addr) (C : Nat → Nat) (V : Nat → List Int) (d j : Nat) (w : World)
    (h0 : Reads .i64 w a0 n s) (h2 : Grid w a2 m A C V) (hnm : n = m) (hr : ∀ r, r < n → (V r).length = d) (hj : j < d) (hs : ∀ k, -2147483648 ≤ s.getD k 0 ∧ s.getD k 0 ≤ 2147483647) :
    Calls Try.prog 22 #[.slice a0 n c0, .slice a2 m c2, .int .i64 j] w fun e w' => e = .returned (.int .i64 (blendZ s V n j)) ∧ w' = w := by
  subst hnm
  have hm := h0.max
  unfold blendZ
  go_enter Try.func22, Try.ntmps22
  go_wp2
  go_loopw [7, 12] (fun b i wr => ∃ k : Nat, k ≤ n ∧ i = .int .i64 k ∧ b = .int .i64 (blendTo s V j k) ∧ wr = w) (fun _ i _ => n - (intOf i).toNat)
  case atStart => exact ⟨0, Nat.zero_le _, rfl, rfl, rfl⟩
  case round =>
    obtain ⟨k, hk, rfl, rfl, hw⟩ := hrel
    subst hw
    by_cases hlt : k < n
    · obtain ⟨x, rfl⟩ := h0.some_ (by omega)
      obtain ⟨y, rfl⟩ := h2.some_ (by omega)
      have cx := h0.cell x rfl k hlt
      have cy := h2.cell y rfl k hlt
      have rk := h2.row k hlt
      rw [hr k hlt] at cy rk
      have hd := rk.max
      obtain ⟨z, ez⟩ := rk.some_ (by omega)
      have cz := rk.cell z ez j hj
      rw [ez] at cy
      have es : blendTo s V j (k + 1) = addZ (blendTo s V j k) (s.getD k 0 * clampZ ((V k).getD j 0)) := rfl
      have ws := wf_blendTo s V j k
      have bs := hs k
      obtain ⟨X, eX⟩ : ∃ X, s.getD k 0 = X := ⟨_, rfl⟩
      obtain ⟨Y, eY⟩ : ∃ Y, (V k).getD j 0 = Y := ⟨_, rfl⟩
      obtain ⟨S, eS⟩ : ∃ S, blendTo s V j k = S := ⟨_, rfl⟩
      rw [eX] at cx es bs
      rw [eY] at cz es
      rw [eS] at es ws ⊢
      have bc := clampZ_bounds Y
      have bp := prodD_bounds _ _ bs bc
      have kc := fun W => clamp_call Y W
      have wp : (Lit.int .i64 (X * clampZ Y)).wf = true := WalkArith.wf_i64 ⟨by omega, by omega⟩
      obtain ⟨Z, eZ⟩ : ∃ Z, clampZ Y = Z := ⟨_, rfl⟩
      rw [eZ] at es bc bp kc wp
      have ka := fun W => add_call S (X * Z) ws wp W
      have Es : Hid (blendTo s V j (k + 1) = addZ S (X * Z)) := es
      obtain ⟨T, eT⟩ : ∃ T, addZ S (X * Z) = T := ⟨_, rfl⟩
      rw [eT] at Es ka
      obtain ⟨b1, b2⟩ := bp
      clear eX eY eS eZ eT es rk h0 h2 hr hs
      go_wp2_with (first
        | (go_at_call 35; refine (kc _).mono ?_; rintro e w' ⟨rfl, h⟩; obtain rfl := h.symm)
        | (go_at_call 40; refine (ka _).mono ?_; rintro e w' ⟨rfl, h⟩; obtain rfl := h.symm))
      go_roundw
      case rel => exact ⟨k + 1, by omega, by go_num, by rw [Es.out], trivial⟩
      case measure => simp [intOf]; omega
    · have e : k = n := by omega
      subst e
      have ws := wf_blendTo s V j k
      go_wp2_with (first | (go_at_call 41; refine (shift_call _ _ ws (by decide) _).mono ?_; rintro e w' ⟨rfl, rfl⟩) | (go_at_call 35; refine (clamp_call _ _).mono ?_; rintro e w' ⟨rfl, rfl⟩))
      go_ret
      exact ⟨rfl, rfl⟩

set_option maxHeartbeats 1000000 in
theorem head_yes (a0 : Option Addr) (d c0 : Nat) (q : List Int) (a1 : Option Addr) (n c1 : Nat) (A : Nat → Option Addr) (C : Nat → Nat) (K : Nat → List Int) (a2 : Option Addr) (c2 : Nat) (A' : Nat → Option Addr) (C' : Nat → Nat) (V : Nat → List Int) (w : World)
    (h0 : Reads .i64 w a0 d q) (h1 : Grid w a1 n A C K) (h2 : Grid w a2 n A' C' V) (hd : 0 < d) (hn : 0 < n) (hr : ∀ r, r < n → (K r).length = d ∧ (V r).length = d) (hb0 : d * 8 ≤ 140737488355328) (hb1 : n * 8 ≤ 140737488355328) :
    Calls Try.prog 9 #[.slice a0 d c0, .slice a1 n c1, .slice a2 n c2] w fun e w' => (∃ a c, e = .returned (.tuple #[.slice a d c, .int .i64 0]) ∧ Reads .i64 w' a d (headZ q K V d n) ∧ (a = none → c = 0)) ∧ Below w.heap.size w w' := by
  obtain ⟨i0, hi, hz0, hz1, hz2⟩ := info_parts info2
  have hm := h0.max
  have kf := fits_yes a0 d c0 a1 n c1 A C K a2 c2 A' C' V w h1 h2 hd hn hr
  have kc := scores_call a0 d c0 q a1 n c1 A C K w h0 h1 (fun r h => (hr r h).1) hb0 hb1
  have sl := softZ_bounds (scoresZ q K d n) n
  have eh : headZ q K V d n = (List.range d).map (blendZ (softZ (scoresZ q K d n) n) V n) := rfl
  have wh := wf_headZ q K V d n
  have lh := headZ_length q K V d n
  have kso := fun (W : World) a c (h : Reads .i64 W a n (scoresZ q K d n)) => soft_call a n c (scoresZ q K d n) W h (by omega)
  obtain ⟨s, es⟩ : ∃ s, softZ (scoresZ q K d n) n = s := ⟨_, rfl⟩
  rw [es] at sl eh
  simp only [es] at kso
  obtain ⟨t, et⟩ : ∃ t, scoresZ q K d n = t := ⟨_, rfl⟩
  simp only [et] at kso
  rw [et] at kc
  clear es et
  go_enter Try.func9, Try.ntmps9
  go_wp2_with (first
    | (go_at_call 19; refine kf.mono ?_; rintro e w' ⟨rfl, h⟩; obtain rfl := h.symm; clear kf)
    | (go_at_call 21; refine kc.mono ?_; rintro e W1 ⟨⟨pa, pc, rfl, r1⟩, b1⟩; clear kc)
    | (go_at_call 20; refine (kso W1 pa pc r1).mono ?_; rintro e W2 ⟨⟨sa, sc, rfl, r2⟩, b2⟩; replace b2 := below_then b1 b2; clear kso r1)
    | (at_make; refine wpList_make_full _ rfl (.tmp 21) (.tmp 21) 22 rfl w.heap.size 2 i0 (.int .i64 0) 1 Try.underlying22 hi hz0 hz1 .i64 .i64 _ _ d rfl rfl rfl rfl (by rw [hz2]; omega) (by unfold maxLen; omega) b2.size ?_; intro w1 hown hgrow))
  have b3 : Below W2.heap.size W2 w1 := (Below.refl _ _).grown hgrow (Nat.le_refl _) (fun k h => by cases h)
  have hg := b2.size
  have g2 := h2.below b2
  clear hgrow h2 h1 h0 b1
  go_wp2
  go_loopw [25] (fun i wr => ∃ k : Nat, k ≤ d ∧ i = .int .i64 k ∧ Below W2.heap.size W2 wr ∧ ∃ cs, wr.ownsRow w.heap.size 2 1 (.slice (some ⟨W2.heap.size, 0, none⟩) d d) d cs ∧ ∀ j, j < k → cs[j]? = some (.int .i64 (blendZ s V n j))) (fun i _ => d - (intOf i).toNat)
  case atStart => exact ⟨0, Nat.zero_le _, rfl, b3, _, hown, fun j hj => by omega⟩
  case round =>
    clear hown b3
    obtain ⟨k, hk, rfl, hbr, cs, ho, hcs⟩ := hrel
    by_cases hlt : k < d
    · have kb := blend_call sa n sc s a2 n c2 A' C' V d k wr (r2.below hbr) (g2.below hbr) rfl (fun r h => (hr r h).2) hlt sl
      have hlen := own_length ho
      obtain ⟨u, hu⟩ : ∃ u, cs[k]? = some u := ⟨cs[k], by simp [hlen, hlt]⟩
      have cell : wr.cell? ⟨W2.heap.size, k, none⟩ = some u := (ho.cellAt k (by omega)).trans hu
      have froz := ho.frozenAt k
      have R : Hid (Below W2.heap.size W2 (wr.setCell ⟨W2.heap.size, k, none⟩ (.int .i64 (blendZ s V n k))) ∧ ∃ cs', (wr.setCell ⟨W2.heap.size, k, none⟩ (.int .i64 (blendZ s V n k))).ownsRow w.heap.size 2 1 (.slice (some ⟨W2.heap.size, 0, none⟩) d d) d cs' ∧ ∀ j, j < k + 1 → cs'[j]? = some (.int .i64 (blendZ s V n j))) :=
        ⟨hbr.setCell (Nat.le_refl _) _, _, (ho.stored k _).1, set_step (F := fun j => Value.int .i64 (blendZ s V n j)) hlen hlt rfl hcs⟩
      obtain ⟨E, eE⟩ : ∃ E, blendZ s V n k = E := ⟨_, rfl⟩
      rw [eE] at kb R
      clear eE ho hcs hlen hbr hr sl g2 r2 eh wh lh hi hz0 hz1 hz2 hu
      go_wp2_with (go_at_call 22; refine kb.mono ?_; rintro e w' ⟨rfl, h⟩; obtain rfl := h.symm)
      go_roundw
      case rel => exact ⟨k + 1, by omega, by go_num, R.out⟩
      case measure => simp [intOf]; omega
    · have e : k = d := by omega
      subst e
      have fin := own_reads_at (zs := headZ q K V k n) ho lh wh (fun i hi => by rw [hcs i hi, eh]; simp [hi])
      have bw := below_then b2 hbr
      clear hcs ho
      go_wp2
      go_ret2
      exact ⟨⟨_, _, rfl, fin, fun h => by cases h⟩, bw⟩

theorem head_no (a0 : Option Addr) (d c0 : Nat) (a1 : Option Addr) (n c1 : Nat) (A : Nat → Option Addr) (C : Nat → Nat) (K : Nat → List Int) (a2 : Option Addr) (m c2 : Nat) (A' : Nat → Option Addr) (C' : Nat → Nat) (V : Nat → List Int) (w : World)
    (h1 : Grid w a1 n A C K) (h2 : Grid w a2 m A' C' V) (hf : fitB d n m K V = false) :
    Calls Try.prog 9 #[.slice a0 d c0, .slice a1 n c1, .slice a2 m c2] w fun e w' => e = .returned (.tuple #[.slice none 0 0, .int .i64 21]) ∧ w' = w := by
  have kf := fits_no a0 d c0 a1 n c1 A C K a2 m c2 A' C' V w h1 h2 hf
  go_enter Try.func9, Try.ntmps9
  go_wp2_with (go_at_call 19; refine kf.mono ?_; rintro e w' ⟨rfl, h⟩; obtain rfl := h.symm)
  go_ret2
  exact ⟨rfl, rfl⟩

theorem head_call (a0 : Option Addr) (d c0 : Nat) (q : List Int) (a1 : Option Addr) (n c1 : Nat) (A : Nat → Option Addr) (C : Nat → Nat) (K : Nat → List Int) (a2 : Option Addr) (m c2 : Nat) (A' : Nat → Option Addr) (C' : Nat → Nat) (V : Nat → List Int) (w : World)
    (h0 : Reads .i64 w a0 d q) (h1 : Grid w a1 n A C K) (h2 : Grid w a2 m A' C' V) (hb0 : d * 8 ≤ 140737488355328) (hb1 : n * 8 ≤ 140737488355328) :
    Calls Try.prog 9 #[.slice a0 d c0, .slice a1 n c1, .slice a2 m c2] w fun e w' => (∃ a k c, e = .returned (.tuple #[.slice a k c, .int .i64 (headE d n m K V)]) ∧ Reads .i64 w' a k (headR q K V d n m) ∧ (a = none → c = 0)) ∧ Below w.heap.size w w' := by
  unfold headE headR
  cases hf : fitB d n m K V with
  | true =>
    simp only [if_true]
    obtain ⟨hd, hn, rfl, hr⟩ := (fitB_iff ..).1 hf
    exact (head_yes _ _ _ _ _ _ _ _ _ _ _ _ _ _ _ _ h0 h1 h2 hd hn hr hb0 hb1).mono fun e w' ⟨⟨a, c, he, hr, hc⟩, hw⟩ => ⟨⟨a, _, c, he, hr, hc⟩, hw⟩
  | false =>
    simp only [Bool.false_eq_true, if_false]
    exact (head_no _ _ _ _ _ _ _ _ _ _ _ _ _ _ _ _ h1 h2 hf).mono fun e w' ⟨he, hw⟩ => ⟨⟨none, 0, 0, he, Reads.nil _ _, fun _ => rfl⟩, hw ▸ Below.refl _ _⟩

end Go.Proofs.Ythbddbipmoflfaa
