/- What the document's Mean gives back: contracts of the call. -/
import Derived.Test.YtdpodanhokihlaaRows
import Derived.Test.YtdpodanhokihlaaSat
import Derived.Test.YtdpodanhokihlaaSatRef
import Derived.Test.YtdpodanhokihlaaAdds
import Derived.Test.YtdpodanhokihlaaView
import Derived.Test.YtdpodanhokihlaaOwn
import Derived.Test.YtdpodanhokihlaaMean
import Derived.WalkKit
import Derived.ProofKit
import Derived.OpenShut
import Derived.Below
import Derived.WalkLawsBesides
import Derived.Deep.QuietTactic
import Derived.BigQuiet
namespace Go.Proofs.Ytdpodanhokihlaa
open Go.ChangeShapes Go.WideShapes Go.ChangeAt Go.RowKit
set_option linter.unusedVariables false

theorem refMean_none (a0 : Option Addr) (c0 : Nat) (w : World) :
    Calls Try.prog 15 #[.slice a0 0 c0] w fun e w' => e = .returned (.tuple #[.slice none 0 0, .int .i64 21]) ∧ Below w.heap.size w w' := by
  go_enter Try.func15, Try.ntmps15
  go_wp2
  go_ret2
  exact ⟨rfl, Below.refl _ _⟩

theorem refMean_differ (a0 : Option Addr) (n c0 : Nat) (A : Nat → Option Addr) (C : Nat → Nat) (R : Nat → List Int) (w : World) (h0 : Grid w a0 n A C R) (hn : 0 < n) (he : ¬Even n R) :
    Calls Try.prog 15 #[.slice a0 n c0] w fun e w' => e = .returned (.tuple #[.slice none 0 0, .int .i64 21]) ∧ Below w.heap.size w w' := by
  have hm := h0.max
  have nz : ((n : Int) == 0) = false := by simp; omega
  go_enter Try.func15, Try.ntmps15
  go_wp2
  go_loopw [4] (fun i wr => ∃ k : Nat, k ≤ n ∧ i = .int .i64 k ∧ (∀ r, r < k → (R r).length = (R 0).length) ∧ ∃ m, wr = w.drewN m) (fun i _ => n - (intOf i).toNat)
  case atStart => exact ⟨0, Nat.zero_le _, rfl, fun r h => by omega, 0, rfl⟩
  case round =>
    obtain ⟨k, hk, rfl, hs, m, hw⟩ := hrel
    by_cases hlt : k < n
    · obtain ⟨x, rfl⟩ := h0.some_ (by omega)
      have cx : wr.cell? (x.add k) = some (.slice (A k) (R k).length (C k)) := by rw [hw]; exact h0.cell x rfl k hlt
      have c0' : wr.cell? x = some (.slice (A 0) (R 0).length (C 0)) := by rw [hw]; exact h0.first (by omega)
      have Hw : Hid (wr = w.drewN m) := hw
      clear hw
      by_cases hd : (R k).length = (R 0).length
      · have Hs : Hid (∀ r, r < k + 1 → (R r).length = (R 0).length) := fun r hr => by
          by_cases e : r = k
          · rw [e, hd]
          · exact hs r (by omega)
        rw [hd] at cx
        clear hs hd he
        obtain ⟨d, ed⟩ : ∃ d, (R 0).length = d := ⟨_, rfl⟩
        rw [ed] at cx c0'
        clear ed h0
        go_wp2
        go_quiet (fail)
        go_wp2
        go_roundw
        case rel => exact ⟨k + 1, by omega, by go_num, Hs.out, _, by rw [Hw.out, World.drewN_drewN]⟩
        case measure => simp [intOf]; omega
      · clear hs he h0
        obtain ⟨d, ed⟩ : ∃ d, (R 0).length = d := ⟨_, rfl⟩
        obtain ⟨g, eg⟩ : ∃ g, (R k).length = g := ⟨_, rfl⟩
        rw [ed] at c0' hd
        rw [eg] at cx hd
        have e' : ((g : Int) == (d : Int)) = false := by simp; omega
        clear ed eg
        go_wp2
        go_quiet (fail)
        go_wp2
        go_ret2
        exact ⟨rfl, below_drew (Below.refl _ _) ⟨_, by rw [Hw.out, World.drewN_drewN]⟩⟩
    · exact absurd ⟨hn, fun r hr => hs r (by omega)⟩ he

set_option maxHeartbeats 1000000 in
theorem refMean_even (a0 : Option Addr) (n c0 : Nat) (A : Nat → Option Addr) (C : Nat → Nat) (R : Nat → List Int) (w : World) (h0 : Grid w a0 n A C R) (he : Even n R) (hb : (R 0).length * 8 ≤ 140737488355328) :
    Calls Try.prog 15 #[.slice a0 n c0] w fun e w' => (∃ a c, e = .returned (.tuple #[.slice a (R 0).length c, .int .i64 0]) ∧ Reads .i64 w' a (R 0).length ((List.range (R 0).length).map (meanF R n))) ∧ Below w.heap.size w w' := by
  obtain ⟨i0, hi, hz0, hz1, hz2⟩ := info_parts info2
  have hm := h0.max
  obtain ⟨hn, he⟩ := he
  have nz : ((n : Int) == 0) = false := by simp; omega
  have hd := (h0.row 0 hn).max
  have row : ∀ r, r < n → Reads .i64 w (A r) (R 0).length (R r) := fun r hr => by have := h0.row r hr; rwa [he r hr] at this
  have cel : ∀ x, a0 = some x → ∀ r, r < n → w.cell? (x.add r) = some (.slice (A r) (R 0).length (C r)) := fun x hx r hr => by have := h0.cell x hx r hr; rwa [he r hr] at this
  obtain ⟨x, rfl⟩ := h0.some_ hn
  have fst := h0.first hn
  have cel := cel x rfl
  obtain ⟨d, ed⟩ : ∃ d, (R 0).length = d := ⟨_, rfl⟩
  rw [ed] at hd row cel hb fst ⊢
  clear ed he h0
  go_enter Try.func15, Try.ntmps15
  go_wp2
  go_loopw [4] (fun i wr => ∃ k : Nat, k ≤ n ∧ i = .int .i64 k ∧ ∃ m, wr = w.drewN m) (fun i _ => n - (intOf i).toNat)
  case atStart => exact ⟨0, Nat.zero_le _, rfl, 0, rfl⟩
  case round =>
    obtain ⟨k, hk, rfl, m, hw⟩ := hrel
    by_cases hlt : k < n
    · have cx : wr.cell? (x.add k) = some (.slice (A k) d (C k)) := by rw [hw]; exact cel k hlt
      have c0' : wr.cell? x = some (.slice (A 0) d (C 0)) := by rw [hw]; exact fst
      have Hw : Hid (wr = w.drewN m) := hw
      clear hw row cel fst
      go_wp2
      go_quiet (fail)
      go_wp2
      go_roundw
      case rel => exact ⟨k + 1, by omega, by go_num, _, by rw [Hw.out, World.drewN_drewN]⟩
      case measure => simp [intOf]; omega
    · have e : k = n := by omega
      subst e
      have hb1 : Below w.heap.size w wr := below_drew (Below.refl _ _) ⟨m, hw⟩
      clear hw
      rename World => W1
      go_wp2
      go_loopw [5, 6] (fun v i wr => ∃ j : Nat, j ≤ d ∧ i = .int .i64 j ∧ Below w.heap.size w wr ∧ wr.ownsRow w.heap.size 2 1 v j (gath (meanF R k) .i64 j)) (fun _ i _ => d - (intOf i).toNat)
      case atStart => exact ⟨0, Nat.zero_le _, rfl, hb1, World.ownsRow_nil _ _ _ _⟩
      case round =>
        clear hb1
        obtain ⟨j, hj, rfl, hbr, ho⟩ := hrel
        have f0 : wr.cell? x = some (.slice (A 0) d (C 0)) := (hbr.cell (World.block_lt_of_cell? w _ fst)).trans fst
        by_cases hlt : j < d
        · rename World => W2
          have hsz := hbr.size
          go_wp2
          go_loopw [7, 8] (fun s i wr => ∃ l : Nat, l ≤ k ∧ i = .int .i64 l ∧ s = .int .i64 (colZ R j l) ∧ wr = W2) (fun _ i _ => k - (intOf i).toNat)
          case atStart => exact ⟨0, Nat.zero_le _, rfl, rfl, rfl⟩
          case round =>
            obtain ⟨l, hl, rfl, rfl, hw⟩ := hrel
            obtain rfl := hw.symm
            by_cases hlt' : l < k
            · have cx : W2.cell? (x.add l) = some (.slice (A l) d (C l)) := (hbr.cell (World.block_lt_of_cell? w _ (cel l hlt'))).trans (cel l hlt')
              have rl := (row l hlt').below hbr
              obtain ⟨y, ey⟩ := rl.some_ (by omega)
              have cy := rl.cell y ey j hlt
              rw [ey] at cx
              have ws := wf_colZ R j l
              have es : colZ R j (l + 1) = addZ (colZ R j l) (clampZ ((R l).getD j 0)) := rfl
              obtain ⟨X, eX⟩ : ∃ X, (R l).getD j 0 = X := ⟨_, rfl⟩
              obtain ⟨S, eS⟩ : ∃ S, colZ R j l = S := ⟨_, rfl⟩
              rw [eX] at cy es
              rw [eS] at es ws ⊢
              have Es : Hid (colZ R j (l + 1) = addZ S (clampZ X)) := es
              have wc := wf_clampZ X
              clear eX eS es rl row cel fst ho hbr hi hz0 hz1 hz2 ey
              go_wp2_with (first | (go_at_call 17; refine (refClamp_call _ _).mono ?_; rintro e w' ⟨rfl, h⟩; obtain rfl := h.symm) | (go_at_call 22; refine (refAdd_call _ _ ws wc _).mono ?_; rintro e w' ⟨rfl, h⟩; obtain rfl := h.symm))
              go_roundw
              case rel => exact ⟨l + 1, by omega, by go_num, by rw [Es.out], trivial⟩
              case measure => simp [intOf]; omega
            · have e : l = k := by omega
              subst e
              have kz : ((l : Int) == 0) = false := by simp; omega
              have wc := bounds_i64 (wf_colZ R j l)
              have tb := tdiv_within (colZ R j l) l wc.1 wc.2
              have Ez : Hid (clampZ ((colZ R j l).tdiv l) = meanF R l j) := rfl
              obtain ⟨S, eS⟩ : ∃ S, colZ R j l = S := ⟨_, rfl⟩
              rw [eS] at wc tb Ez ⊢
              clear eS row cel
              obtain ⟨t0, t1⟩ := tb
              go_wp2_with (first
                | (go_at_call 17; refine (refClamp_call _ _).mono ?_; rintro e w' ⟨rfl, h⟩; obtain rfl := h.symm)
                | (at_builtin; refine wpList_append_own _ rfl (.tmp 52) (.tmp 58) 22 rfl w.heap.size 2 i0 (.int .i64 0) 1 8 Try.underlying22 hi hz0 hz1 hz2 rfl (by decide) _ _ _ rfl (ho.alloc _) ⟨_, 0, none⟩ 1 1 [.int .i64 (clampZ (S.tdiv l))] rfl rfl (one_new _ _ _) (one_oneCell _ _) (by unfold maxLen; omega) (by omega) (by simp; omega) ?_; intro v' w1 ho' hg _))
              go_roundw
              case rel => exact ⟨j + 1, by omega, by go_num, append_step hsz Ez.out hbr ho ho' hg⟩
              case measure => simp [intOf]; omega
        · have e : j = d := by omega
          subst e
          have fin := own_reads (zs := (List.range j).map (meanF R k)) ho (by simp) (fun z hz => by obtain ⟨y, _, rfl⟩ := List.mem_map.1 hz; exact wf_clampZ _) (fun i hi => by rw [gath_at _ _ _ _ hi]; simp [hi])
          obtain ⟨a, c, rfl, hr⟩ := fin
          clear ho row cel
          go_wp2
          go_ret2
          exact ⟨⟨_, _, rfl, hr⟩, hbr⟩

open Classical in
theorem refMean_call (a0 : Option Addr) (n c0 : Nat) (A : Nat → Option Addr) (C : Nat → Nat) (R : Nat → List Int) (w : World) (h0 : Grid w a0 n A C R) (hb : Even n R → (R 0).length * 8 ≤ 140737488355328) :
    Calls Try.prog 15 #[.slice a0 n c0] w fun e w' => (∃ a m c, e = .returned (.tuple #[.slice a m c, .int .i64 (if Even n R then 0 else 21)]) ∧ Reads .i64 w' a m (if Even n R then (List.range (R 0).length).map (meanF R n) else [])) ∧ Below w.heap.size w w' := by
  by_cases e : Even n R
  · simp only [if_pos e]
    exact (refMean_even _ _ _ _ _ _ _ h0 e (hb e)).mono fun e w' ⟨⟨a, c, he, hr⟩, hw⟩ => ⟨⟨a, _, c, he, hr⟩, hw⟩
  · simp only [if_neg e]
    by_cases z : n = 0
    · subst z
      exact (refMean_none _ _ _).mono fun e w' ⟨he, hw⟩ => ⟨⟨none, 0, 0, he, Reads.nil _ _⟩, hw⟩
    · exact (refMean_differ _ _ _ _ _ _ _ h0 (by omega) e).mono fun e w' ⟨he, hw⟩ => ⟨⟨none, 0, 0, he, Reads.nil _ _⟩, hw⟩

end Go.Proofs.Ytdpodanhokihlaa
