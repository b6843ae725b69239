/- What the document's All gives back: contracts of the calls. -/
import Derived.Test.YthbddbipmoflfaaRows
import Derived.Test.YthbddbipmoflfaaSat
import Derived.Test.YthbddbipmoflfaaAdds
import Derived.Test.YthbddbipmoflfaaView
import Derived.Test.YthbddbipmoflfaaOwn
import Derived.Test.YthbddbipmoflfaaSteps
import Derived.Test.YthbddbipmoflfaaWhere
import Derived.Test.YthbddbipmoflfaaSoft
import Derived.Test.YthbddbipmoflfaaMean
import Derived.Test.YthbddbipmoflfaaGrids
import Derived.Test.YthbddbipmoflfaaAtPlain
import Derived.Test.YthbddbipmoflfaaAtShapes
import Derived.Test.YthbddbipmoflfaaAtRef
import Derived.Test.YthbddbipmoflfaaAtCut
import Derived.Test.YthbddbipmoflfaaAtRefCut
import Derived.Test.YthbddbipmoflfaaAtAll
import Derived.Test.YthbddbipmoflfaaAtAlls
import Derived.Test.YthbddbipmoflfaaAtReg
import Derived.WalkKit
import Derived.ProofKit
import Derived.OpenShut
import Derived.Below
import Derived.WalkLawsBesides
import Derived.Deep.QuietTactic
import Derived.BigQuiet
namespace Go.Proofs.Ythbddbipmoflfaa
open Go.ChangeShapes Go.WideShapes Go.ChangeAt Go.RowKit
set_option linter.unusedVariables false
set_option linter.unusedSimpArgs false

set_option maxHeartbeats 2000000 in
theorem refAll_yes (x : Addr) (N c0 H : Nat) (q : List Int) (a1 : Option Addr) (n c1 : Nat) (A : Nat → Option Addr) (C : Nat → Nat) (K : Nat → List Int) (a2 : Option Addr) (c2 : Nat) (A' : Nat → Option Addr) (C' : Nat → Nat) (V : Nat → List Int) (w : World)
    (h0 : Reads .i64 w (some x) N q) (l0 : N ≤ c0) (h1 : Grid w a1 n A C K) (hC : ∀ r, r < n → (K r).length ≤ C r) (h2 : Grid w a2 n A' C' V) (hC' : ∀ r, r < n → (V r).length ≤ C' r) (hH : 0 < H) (hN : 0 < N) (hn : 0 < n) (hmod : N % H = 0) (hr : ∀ r, r < n → (K r).length = N ∧ (V r).length = N)
    (hb0 : N * 8 ≤ 140737488351232) (hb1 : n * 24 ≤ 140737488351232) :
    Calls Try.prog 13 #[.slice (some x) N c0, .slice a1 n c1, .slice a2 n c2, .int .i64 H] w fun e w' => (∃ a c, e = .returned (.tuple #[.slice a N c, .int .i64 0]) ∧ Reads .i64 w' a N (allL q K V (N / H) n H) ∧ N ≤ c) ∧ Below w.heap.size w w' := by
  obtain ⟨i0, hi, hz0, hz1, hz2⟩ := info_parts info2
  have hm := h0.max
  have kf := shapes_yes (some x) N c0 a1 n c1 A C K a2 c2 A' C' V w h1 h2 hN hn hr
  obtain ⟨d, ed⟩ : ∃ d, N / H = d := ⟨_, rfl⟩
  have ed' : (N : Int) / (H : Int) = (d : Int) := by rw [← ed]; simp
  have er' : (N : Int) % (H : Int) = 0 := by omega
  have eH : H * d = N := by rw [← ed, Nat.mul_comm]; exact Nat.div_mul_cancel (Nat.dvd_of_mod_eq_zero hmod)
  rw [ed]
  have d0 : 0 < d := by
    rcases Nat.eq_zero_or_pos d with r | r
    · subst r; simp at eH; omega
    · exact r
  have hdn : d ≤ N := by rw [← ed]; exact Nat.div_le_self _ _
  have hHN : H ≤ N := by rw [← eH]; exact Nat.le_mul_of_pos_right _ d0
  clear ed hmod
  have z : ((H : Int) == 0) = false := by simp; omega
  go_enter Try.func13, Try.ntmps13
  go_wp2_with (first
    | (go_at_call 23; refine kf.mono ?_; rintro e w' ⟨rfl, h⟩; obtain rfl := h.symm; clear kf))
  go_loopw [11, 12] (fun v i wr => ∃ k : Nat, k ≤ H ∧ i = .int .i64 k ∧ Below w.heap.size w wr ∧ wr.ownsRow w.heap.size 2 1 v (k * d) ((allL q K V d n k).map (Value.int .i64))) (fun _ i _ => H - (intOf i).toNat)
  case atStart => exact ⟨0, Nat.zero_le _, rfl, Below.refl _ _, by simpa [allL] using World.ownsRow_nil w w.heap.size 2 1⟩
  case round =>
    obtain ⟨k, hk, rfl, hbr, ho⟩ := hrel
    by_cases hlt : k < H
    · have hq := part_room eH hlt
      have hr0 := (h0.below hbr).cut (k * d) d hq
      have kk := fun (W : World) (hb : Below wr.heap.size wr W) => refCut_call a1 n c1 A C K (k * d) d W ((h1.below hbr).below hb) hC d0 (fun r h => by rw [(hr r h).1]; exact hq) hb1
      have kv := fun (W : World) (hb : Below wr.heap.size wr W) => refCut_call a2 n c2 A' C' V (k * d) d W ((h2.below hbr).below hb) hC' d0 (fun r h => by rw [(hr r h).2]; exact hq) hb1
      have lk : ∀ r, r < n → (cutR K (k * d) d r).length = d ∧ (cutR V (k * d) d r).length = d := fun r h => ⟨cutR_length _ _ _ _ (by rw [(hr r h).1]; exact hq), cutR_length _ _ _ _ (by rw [(hr r h).2]; exact hq)⟩
      have es : allL q K V d n (k + 1) = allL q K V d n k ++ headZ ((q.drop (k * d)).take d) (cutR K (k * d) d) (cutR V (k * d) d) d n := rfl
      have ek : (k + 1) * d = k * d + d := Nat.succ_mul k d
      have eki : (k : Int) * (d : Int) = ((k * d : Nat) : Int) := by simp
      have eki' : ((k : Int) + 1) * (d : Int) = ((k * d + d : Nat) : Int) := by rw [← ek]; simp
      obtain ⟨qs, eq⟩ : ∃ qs, (q.drop (k * d)).take d = qs := ⟨_, rfl⟩
      rw [eq] at hr0 es
      obtain ⟨P, eP⟩ : ∃ P, k * d = P := ⟨_, rfl⟩
      simp only [eP] at kk kv lk
      rw [eP] at hr0 hq ek ho es eki eki'
      obtain ⟨Q, eQ⟩ : ∃ Q, P + d = Q := ⟨_, rfl⟩
      rw [eQ] at eki'
      have eQ2 : Q - P = d := by omega
      have hQ : Q ≤ c0 := by omega
      have hQN : Q ≤ N := by omega
      have hP : P < Q := by omega
      have hPc : ¬c0 = P := by omega
      have kh := fun (W : World) cq b c e f (h0 : Reads .i64 W (some (x.add P)) d qs) (h1 : Grid W b n (cutA A P) (fun r => C r - P) (cutR K P d)) (h2 : Grid W e n (cutA A' P) (fun r => C' r - P) (cutR V P d)) => refHead_yes (some (x.add P)) d cq qs b n c (cutA A P) (fun r => C r - P) (cutR K P d) e f (cutA A' P) (fun r => C' r - P) (cutR V P d) W h0 h1 h2 d0 hn lk (by omega) (by omega)
      have Es : Hid (allL q K V d n (k + 1) = allL q K V d n k ++ headZ qs (cutR K P d) (cutR V P d) d n) := es
      have Ek : Hid ((k + 1) * d = P + d) := ek
      obtain ⟨O, eO⟩ : ∃ O, headZ qs (cutR K P d) (cutR V P d) d n = O := ⟨_, rfl⟩
      rw [eO] at Es
      simp only [eO] at kh
      have hPN : P < N := by omega
      clear eq eP es ek eH eO lk hC hC' hr h0 h1 h2 eQ
      go_wp2
      refine ha_region x N c0 n c1 c2 P Q d k a1 a2 A A' C C' K V O (fun W => Below wr.heap.size wr W) (by kernel_rfl) rfl ⟨_, rfl, rfl, rfl, rfl, by kernel_rfl⟩ ⟨_, rfl, rfl, rfl, rfl, by kernel_rfl⟩ ⟨_, rfl, rfl, rfl, rfl, by kernel_rfl⟩ ⟨_, rfl, rfl, rfl, rfl, by kernel_rfl⟩ ⟨_, rfl, rfl, rfl, rfl, by kernel_rfl⟩ ⟨_, rfl, rfl, rfl, rfl, by kernel_rfl⟩ ⟨_, rfl, rfl, rfl, rfl, by kernel_rfl⟩ ⟨_, rfl, rfl, rfl, rfl, by kernel_rfl⟩ ⟨_, rfl, rfl, rfl, rfl, by kernel_rfl⟩ ⟨_, rfl, rfl, rfl, rfl, by kernel_rfl⟩ ⟨_, rfl, rfl, rfl, rfl, by kernel_rfl⟩ ⟨_, rfl, rfl, rfl, rfl, by kernel_rfl⟩ ⟨_, rfl, rfl, rfl, rfl, by kernel_rfl⟩ ⟨_, rfl, rfl, rfl, rfl, by kernel_rfl⟩ ⟨_, rfl, rfl, rfl, rfl, by kernel_rfl⟩ ⟨_, rfl, rfl, rfl, rfl, by kernel_rfl⟩ ⟨_, rfl, rfl, rfl, rfl, by kernel_rfl⟩ ⟨_, rfl, rfl, rfl, rfl, by kernel_rfl⟩ ⟨_, rfl, rfl, rfl, rfl, by kernel_rfl⟩ ⟨_, rfl, rfl, rfl, rfl, by kernel_rfl⟩ ⟨_, rfl, rfl, rfl, rfl, by kernel_rfl⟩ ⟨_, rfl, rfl, rfl, rfl, by kernel_rfl⟩ ⟨_, rfl, rfl, rfl, rfl, by kernel_rfl⟩ ⟨_, rfl, rfl, rfl, rfl, by kernel_rfl⟩ ⟨_, rfl, rfl, rfl, rfl, by kernel_rfl⟩ ⟨_, rfl, rfl, rfl, rfl, by kernel_rfl⟩ ⟨_, rfl, rfl, rfl, rfl, by kernel_rfl⟩ (Below.refl _ _).drew (run_mul3 _ _ _ eki (by omega) (by omega)) (run_add3 _ _ (by omega) (by omega)) (run_mul3 _ _ _ eki' (by omega) (by omega)) (run_cut22 x N c0 P Q d hP hQ eQ2) (run_mul3 _ _ _ eki (by omega) (by omega)) (fun W hb => (kk W hb).mono fun e w' ⟨⟨b, j, h1, h2⟩, h3⟩ => ⟨b, j, h1, h2, h3, below_then hb h3⟩) (run_mul3 _ _ _ eki (by omega) (by omega)) (fun W hb => (kv W hb).mono fun e w' ⟨⟨b, j, h1, h2⟩, h3⟩ => ⟨b, j, h1, h2, h3, below_then hb h3⟩) (fun W hb b j b' j' g1 g2 => (kh W _ b j b' j' (hr0.below hb) g1 g2).mono fun e w' ⟨⟨b, j, h1, h2, h3⟩, h4⟩ => ⟨b, j, h1, h2, h3, h4, below_then hb h4⟩) rfl rfl rfl rfl rfl (Nat.le_of_ble_eq_true rfl) ?_
      intro a W9 hs hd hkp hS9 hval
      have e14 : a.tmps.getD 14 undef = .int .i64 0 := hval 26 14 (by decide) rfl
      obtain ⟨b9, j9, e13, f13, z13⟩ := hval 25 13 (by decide) rfl
      have ep := frame_puts [39, 40, 41, 42, 43, 44, 45, 46, 47, 48, 49, 50, 51, 52, 53, 54, 55, 56, 57, 58, 59, 60, 38, 61, 62, 13, 14] hs hd (fun s h => hkp s (fun i hi e => h (by
        rcases (show i = 0 ∨ i = 1 ∨ i = 2 ∨ i = 3 ∨ i = 4 ∨ i = 5 ∨ i = 6 ∨ i = 7 ∨ i = 8 ∨ i = 9 ∨ i = 10 ∨ i = 11 ∨ i = 12 ∨ i = 13 ∨ i = 14 ∨ i = 15 ∨ i = 16 ∨ i = 17 ∨ i = 18 ∨ i = 19 ∨ i = 20 ∨ i = 21 ∨ i = 22 ∨ i = 23 ∨ i = 24 ∨ i = 25 ∨ i = 26 by omega) with rfl | rfl | rfl | rfl | rfl | rfl | rfl | rfl | rfl | rfl | rfl | rfl | rfl | rfl | rfl | rfl | rfl | rfl | rfl | rfl | rfl | rfl | rfl | rfl | rfl | rfl | rfl <;> (simp only [haD, Option.some.injEq] at e; subst e; simp))))
      simp only [List.foldl] at ep
      rw [e14] at ep
      rw [e13] at ep
      have H9 := hidden_ hS9
      clear hs hd hkp hval hS9 e14 e13
      generalize a.tmps.getD 39 undef = g39 at ep
      generalize a.tmps.getD 40 undef = g40 at ep
      generalize a.tmps.getD 41 undef = g41 at ep
      generalize a.tmps.getD 42 undef = g42 at ep
      generalize a.tmps.getD 43 undef = g43 at ep
      generalize a.tmps.getD 44 undef = g44 at ep
      generalize a.tmps.getD 45 undef = g45 at ep
      generalize a.tmps.getD 46 undef = g46 at ep
      generalize a.tmps.getD 47 undef = g47 at ep
      generalize a.tmps.getD 48 undef = g48 at ep
      generalize a.tmps.getD 49 undef = g49 at ep
      generalize a.tmps.getD 50 undef = g50 at ep
      generalize a.tmps.getD 51 undef = g51 at ep
      generalize a.tmps.getD 52 undef = g52 at ep
      generalize a.tmps.getD 53 undef = g53 at ep
      generalize a.tmps.getD 54 undef = g54 at ep
      generalize a.tmps.getD 55 undef = g55 at ep
      generalize a.tmps.getD 56 undef = g56 at ep
      generalize a.tmps.getD 57 undef = g57 at ep
      generalize a.tmps.getD 58 undef = g58 at ep
      generalize a.tmps.getD 59 undef = g59 at ep
      generalize a.tmps.getD 60 undef = g60 at ep
      generalize a.tmps.getD 38 undef = g38 at ep
      generalize a.tmps.getD 61 undef = g61 at ep
      generalize a.tmps.getD 62 undef = g62 at ep
      simp only [Act.put, List.setIfInBounds_toArray, List.set_cons_succ, List.set_cons_zero] at ep
      subst ep
      have cur : Below wr.heap.size wr W9 := H9.out
      have ho9 := own_below ho cur
      have hb9 := below_then hbr cur
      have hsz := hb9.size
      clear H9 cur kk kv kh ho hbr hr0
      go_wp2_with (at_builtin; refine wpList_copy rfl (.tmp 63) (.tmp 64) 22 rfl w.heap.size 2 i0 (.int .i64 0) 8 Try.underlying22 hi hz0 hz1 hz2 rfl _ P _ rfl ho9 .i64 b9 d j9 _ rfl f13 z13 (by unfold maxLen; omega) (by omega) hsz ?_; intro v1 W5 ho3 hg3; have R := And.intro (below_append hb9 ho9 hg3) ho3; clear ho3 hg3 ho9)
      go_roundw
      case rel => exact ⟨k + 1, by omega, by go_num, R.1, by rw [Ek.out, Es.out, List.map_append]; exact R.2⟩
      case measure => simp [intOf]; omega
    · have e : k = H := by omega
      subst e
      rw [eH] at ho
      have fin := own_reads (zs := allL q K V d n k) ho (by rw [allL_length, eH]) (wf_allL _ _ _ _ _ _) (fun j hj => copy_at _ _ _ (by rw [allL_length, eH]; exact hj))
      obtain ⟨a, c, rfl, hr⟩ := fin
      have hn := own_cap ho
      clear ho
      go_wp2
      go_ret2
      exact ⟨⟨_, _, rfl, hr, hn⟩, hbr⟩

theorem refAll_low (a0 : Option Addr) (N c0 : Nat) (a1 : Option Addr) (n c1 : Nat) (a2 : Option Addr) (m c2 : Nat) (hd : Int) (w : World) (h : hd < 1) :
    Calls Try.prog 13 #[.slice a0 N c0, .slice a1 n c1, .slice a2 m c2, .int .i64 hd] w fun e w' => e = .returned (.tuple #[.slice none 0 0, .int .i64 20]) ∧ w' = w := by
  go_enter Try.func13, Try.ntmps13
  go_wp2_with fail
  go_ret2
  exact ⟨rfl, rfl⟩

theorem refAll_odd (a0 : Option Addr) (N c0 : Nat) (a1 : Option Addr) (n c1 : Nat) (a2 : Option Addr) (m c2 : Nat) (H : Nat) (w : World) (hH : 0 < H) (hm : N ≤ 9223372036854775807) (h : N % H ≠ 0) :
    Calls Try.prog 13 #[.slice a0 N c0, .slice a1 n c1, .slice a2 m c2, .int .i64 H] w fun e w' => e = .returned (.tuple #[.slice none 0 0, .int .i64 21]) ∧ w' = w := by
  have z : ((H : Int) == 0) = false := by simp; omega
  obtain ⟨r, er⟩ : ∃ r, N % H = r := ⟨_, rfl⟩
  have er' : (N : Int) % (H : Int) = (r : Int) := by rw [← er]; simp
  rw [er] at h
  clear er
  have zr : ((r : Int) == 0) = false := by simp; omega
  go_enter Try.func13, Try.ntmps13
  go_wp2_with fail
  go_ret2
  exact ⟨rfl, rfl⟩

theorem refAll_unfit (a0 : Option Addr) (N c0 : Nat) (a1 : Option Addr) (n c1 : Nat) (A : Nat → Option Addr) (C : Nat → Nat) (K : Nat → List Int) (a2 : Option Addr) (m c2 : Nat) (A' : Nat → Option Addr) (C' : Nat → Nat) (V : Nat → List Int) (H : Nat) (w : World)
    (hm : N ≤ 9223372036854775807) (h1 : Grid w a1 n A C K) (h2 : Grid w a2 m A' C' V) (hH : 0 < H) (hmod : N % H = 0) (hf : fitB N n m K V = false) :
    Calls Try.prog 13 #[.slice a0 N c0, .slice a1 n c1, .slice a2 m c2, .int .i64 H] w fun e w' => e = .returned (.tuple #[.slice none 0 0, .int .i64 21]) ∧ w' = w := by
  have kf := shapes_no a0 N c0 a1 n c1 A C K a2 m c2 A' C' V w h1 h2 hf
  have z : ((H : Int) == 0) = false := by simp; omega
  have er' : (N : Int) % (H : Int) = 0 := by omega
  clear hmod
  go_enter Try.func13, Try.ntmps13
  go_wp2_with (go_at_call 23; refine kf.mono ?_; rintro e w' ⟨rfl, h⟩; obtain rfl := h.symm)
  go_ret2
  exact ⟨rfl, rfl⟩

theorem refAll_call (a0 : Option Addr) (N c0 : Nat) (q : List Int) (a1 : Option Addr) (n c1 : Nat) (A : Nat → Option Addr) (C : Nat → Nat) (K : Nat → List Int) (a2 : Option Addr) (m c2 : Nat) (A' : Nat → Option Addr) (C' : Nat → Nat) (V : Nat → List Int) (hd : Int) (w : World)
    (h0 : Reads .i64 w a0 N q) (l0 : N ≤ c0) (h1 : Grid w a1 n A C K) (hC : ∀ r, r < n → (K r).length ≤ C r) (h2 : Grid w a2 m A' C' V) (hC' : ∀ r, r < m → (V r).length ≤ C' r) (hb0 : N * 8 ≤ 140737488351232) (hb1 : n * 24 ≤ 140737488351232) :
    Calls Try.prog 13 #[.slice a0 N c0, .slice a1 n c1, .slice a2 m c2, .int .i64 hd] w fun e w' => (∃ a k c, e = .returned (.tuple #[.slice a k c, .int .i64 (allE N n m K V hd)]) ∧ Reads .i64 w' a k (allR q K V N n m hd)) ∧ Below w.heap.size w w' := by
  by_cases hl : hd < 1
  · have e := allE_low (N := N) (n := n) (m := m) (K := K) (V := V) hl
    have e' : allR q K V N n m hd = [] := allR_no (by rw [e]; decide)
    rw [e, e']
    exact (refAll_low _ _ _ _ _ _ _ _ _ _ _ hl).mono fun e w' ⟨he, hw⟩ => ⟨⟨none, 0, 0, he, Reads.nil _ _⟩, hw ▸ Below.refl _ _⟩
  · obtain ⟨H, rfl⟩ : ∃ H : Nat, hd = H := ⟨hd.toNat, by omega⟩
    have hH : 0 < H := by omega
    by_cases hmod : N % H = 0
    · cases hf : fitB N n m K V with
      | true =>
        have e := allE_yes hH hmod hf
        have e' := allR_yes (q := q) hH hmod hf
        rw [e, e']
        obtain ⟨hN, hn, rfl, hr⟩ := (fitB_iff ..).1 hf
        obtain ⟨x, rfl⟩ := h0.some_ hN
        exact (refAll_yes x N c0 H q a1 n c1 A C K a2 c2 A' C' V w h0 l0 h1 hC h2 hC' hH hN hn hmod hr (by omega) (by omega)).mono fun e w' ⟨⟨a, c, he, hr, _⟩, hw⟩ => ⟨⟨a, _, c, he, hr⟩, hw⟩
      | false =>
        have e := allE_no (Or.inr hf) hH (N := N)
        have e' : allR q K V N n m (H : Int) = [] := allR_no (by rw [e]; decide)
        rw [e, e']
        exact (refAll_unfit a0 N c0 a1 n c1 A C K a2 m c2 A' C' V H w h0.max h1 h2 hH hmod hf).mono fun e w' ⟨he, hw⟩ => ⟨⟨none, 0, 0, he, Reads.nil _ _⟩, hw ▸ Below.refl _ _⟩
    · have e := allE_no (n := n) (m := m) (K := K) (V := V) (Or.inl hmod) hH
      have e' : allR q K V N n m (H : Int) = [] := allR_no (by rw [e]; decide)
      rw [e, e']
      exact (refAll_odd a0 N c0 a1 n c1 a2 m c2 H w hH h0.max hmod).mono fun e w' ⟨he, hw⟩ => ⟨⟨none, 0, 0, he, Reads.nil _ _⟩, hw ▸ Below.refl _ _⟩

end Go.Proofs.Ythbddbipmoflfaa
