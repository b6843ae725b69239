/- What the program's Rank and Max answer: contracts of the calls. -/
import Derived.Test.YtkoifogkdbhpcaaRows
import Derived.Test.YtkoifogkdbhpcaaView
import Derived.Test.YtkoifogkdbhpcaaRanks
import Derived.Test.YtkoifogkdbhpcaaCmp
import Derived.Test.YtkoifogkdbhpcaaRank
import Derived.Test.YtkoifogkdbhpcaaPkOrder
import Derived.WalkKit
import Derived.ProofKit
import Derived.OpenShut
import Derived.Below
import Derived.Deep.QuietTactic
import Derived.BigQuiet
import Derived.WalkLawsBesides
import Derived.Deep.RegionWith
namespace Go.Proofs.Ytkoifogkdbhpcaa
set_option maxRecDepth 20000

open Go.ChangeShapes Go.WideShapes Go.ChangeAt Go.RowKit

set_option linter.unusedVariables false

theorem cf_lt {xs : List Int} {i j : Nat} (h : ahead xs i j = true) : cfZ xs i j < 0 := by
  rw [← cfZ_neg] at h
  simpa using h

theorem cf_ge {xs : List Int} {i j : Nat} (h : ahead xs i j = false) : ¬cfZ xs i j < 0 := by
  rw [← cfZ_neg] at h
  simpa using h

theorem below_one {w W : World} (h : Below w.heap.size w W) {W' : World} (k : ∃ o, W' = (W.alloc o).drew) : Below w.heap.size w W' := by
  obtain ⟨o, rfl⟩ := k
  exact below_drew (below_new h o) ⟨1, rfl⟩

theorem max_nil (a0 : Option Addr) (c0 : Nat) (w : World) : Calls Try.prog 19 #[.slice a0 0 c0] w fun e w' => e = .returned (.int .i64 (-1)) ∧ w' = w := by
  go_enter Try.func19, Try.ntmps19
  go_wp2_with fail
  go_ret
  exact ⟨rfl, rfl⟩

set_option maxHeartbeats 1000000 in
theorem max_some (a0 : Option Addr) (n c0 : Nat) (xs : List Int) (w : World) (h0 : Reads .i64 w a0 n xs) (hn : 0 < n) :
    Calls Try.prog 19 #[.slice a0 n c0] w fun e w' => e = .returned (.int .i64 ((places xs).getD 0 0 : Nat)) ∧ Below w.heap.size w w' := by
  have hm := h0.max
  have hl := h0.len
  obtain ⟨x, rfl⟩ := h0.some_ hn
  have hn' : ¬(n : Int) = 0 := by omega
  have e0 := fun f (hf : f < n) (h : ∀ j, j < n → ahead xs j f = false) => (places_ordered xs).first (i := f) (by omega) (fun j hj => h j (by omega))
  obtain ⟨F, eF⟩ : ∃ F, (places xs).getD 0 0 = F := ⟨_, rfl⟩
  rw [eF] at e0 ⊢
  clear eF
  go_enter Try.func19, Try.ntmps19
  go_wp2_with (go_at_call 32; refine (order_call _ _ _ _).mono ?_; rintro e W1 ⟨rfl, hW1⟩; have bx : W1.cell? ⟨w.heap.size, 0, none⟩ = some (.slice (some x) n c0) := (by rw [hW1]; simp); have hb1 : Below w.heap.size w W1 := (by rw [hW1]; exact below_new (Below.refl _ _) _); have r1 := h0.below hb1; clear hW1 h0)
  go_loopw [4, 13] (fun s q wr => ∃ k f : Nat, k ≤ n ∧ f < n ∧ q = .int .i64 k ∧ s = .int .i64 f ∧ (∀ j, j < k → ahead xs j f = false) ∧ Below W1.heap.size W1 wr) (fun _ q _ => n - (intOf q).toNat)
  case atStart => exact ⟨0, 0, Nat.zero_le _, hn, rfl, rfl, fun j hj => by omega, Below.refl _ _⟩
  case round =>
    obtain ⟨k, f, hk, hf, rfl, rfl, hall, hbr⟩ := hrel
    by_cases hlt : k < n
    · have kc := closure_call w.heap.size x n c0 xs k f hlt hf wr (below_cell hbr bx) (r1.below hbr)
      by_cases ha : ahead xs k f = true
      · have hc := cf_lt ha
        have hall' : Hid (∀ j, j < k + 1 → ahead xs j k = false) := fun j hj => by
          by_cases e : j = k
          · subst e; exact ahead_irrefl _ _
          · cases h : ahead xs j k
            · rfl
            · have h1 := hall j (by omega)
              rw [ahead_trans h ha] at h1
              cases h1
        obtain ⟨C, eC⟩ : ∃ C, cfZ xs k f = C := ⟨_, rfl⟩
        rw [eC] at kc hc
        clear eC ha hall
        go_wp2_with (go_at_call 42; refine kc.mono ?_; rintro e W2 ⟨rfl, hw2⟩)
        go_roundw
        case rel => exact ⟨k + 1, k, by omega, hlt, by go_num, rfl, hall'.out, below_one hbr hw2⟩
        case measure => simp [intOf]; omega
      · have ha' : ahead xs k f = false := by simpa using ha
        have hc := cf_ge ha'
        have hall' : Hid (∀ j, j < k + 1 → ahead xs j f = false) := fun j hj => by
          by_cases e : j = k
          · subst e; exact ha'
          · exact hall j (by omega)
        obtain ⟨C, eC⟩ : ∃ C, cfZ xs k f = C := ⟨_, rfl⟩
        rw [eC] at kc hc
        clear eC ha ha' hall
        go_wp2_with (go_at_call 42; refine kc.mono ?_; rintro e W2 ⟨rfl, hw2⟩)
        go_roundw
        case rel => exact ⟨k + 1, f, by omega, hf, by go_num, rfl, hall'.out, below_one hbr hw2⟩
        case measure => simp [intOf]; omega
    · have e : k = n := by omega
      subst e
      obtain rfl := e0 f hf hall
      clear e0 hall
      go_wp2
      go_ret
      exact ⟨rfl, below_then hb1 hbr⟩

theorem max_call (a0 : Option Addr) (n c0 : Nat) (xs : List Int) (w : World) (h0 : Reads .i64 w a0 n xs) :
    Calls Try.prog 19 #[.slice a0 n c0] w fun e w' => e = .returned (.int .i64 (maxZ xs)) ∧ Below w.heap.size w w' := by
  have hl := h0.len
  unfold maxZ
  rw [hl]
  by_cases h : n = 0
  · rw [if_pos h]
    subst h
    exact (max_nil a0 c0 w).mono fun e w' ⟨he, hw⟩ => ⟨he, hw ▸ Below.refl _ _⟩
  · rw [if_neg h]
    exact max_some a0 n c0 xs w h0 (by omega)

end Go.Proofs.Ytkoifogkdbhpcaa
