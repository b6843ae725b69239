/- What Weights gives back, the program's and the document's: contracts of the calls. -/
import Derived.Test.YtbmlafgolmmekabRows
import Derived.Test.YtbmlafgolmmekabView
import Derived.Test.YtbmlafgolmmekabOwn
import Derived.Test.YtbmlafgolmmekabTexts
import Derived.Test.YtbmlafgolmmekabSums
import Derived.Test.YtbmlafgolmmekabSeals
import Derived.WalkKit
import Derived.ProofKit
import Derived.OpenShut
import Derived.Below
import Derived.WalkLawsBesides
import Derived.Deep.QuietTactic
import Derived.BigQuiet
import Derived.Lib.QuietBelow
namespace Go.Proofs.Ytbmlafgolmmekab
open Go.ChangeShapes Go.WideShapes Go.ChangeAt Go.RowKit
open Go.Sort (grow)
set_option linter.unusedVariables false

/-- weights as bytes, without their count -/
def wtsB (zs : List Int) : ByteArray := bytesOf ((zs.take 65535).map (· % 256))
def wtsS (zs : List Int) : ByteArray := two (min zs.length 65535 : Nat) ++ wtsB zs

theorem wtsB_size (zs : List Int) : (wtsB zs).size = min zs.length 65535 := by
  unfold wtsB
  rw [bytesOf_size]
  simp
  omega

theorem reads_take {k : IntKind} {w : World} {a : Option Addr} {n m : Nat} {zs : List Int} (h : Reads k w a n zs) (hm : m ≤ n) : Reads k w a m (zs.take m) := by
  have e : ∀ i, i < m → (zs.take m).getD i 0 = zs.getD i 0 := fun i hi => by simp [List.getD, hi]
  refine ⟨by rw [List.length_take, h.len]; omega, by have := h.max; omega, fun i => ?_, fun h0 => h.some_ (by omega), fun x hx i hi => ?_⟩
  · by_cases hi : i < m
    · rw [e i hi]; exact h.wf i
    · rw [show (zs.take m).getD i 0 = 0 by simp [List.getD]; rw [List.getElem?_eq_none (by rw [List.length_take]; omega)]; rfl]
      exact wf_nought k
  · rw [e i hi]
    exact h.cell x hx i (by omega)

theorem weights_few (a0 : Option Addr) (n c0 : Nat) (zs ys : List Int) (T S : ByteArray) (w : World) (h1 : Reads .i8 w a0 n ys) (hl : n ≤ c0) (hn : n ≤ 65535) (hn' : (n : Int) ≤ 65535) (hmax : n ≤ 9223372036854775807)
    (E : T = bytesOf (ys.map (· % 256))) (hT : T.size = n) (h2 : S.size = 2) (c10 : ∀ w, Calls Try.prog 18 #[.int .i64 (n : Int)] w fun e w' => e = .returned (.string S) ∧ ∃ o, w' = w.alloc o) :
    Calls Try.prog 20 #[.slice a0 n c0] w fun e w' => e = .returned (.string (S ++ T)) ∧ Below w.heap.size w w' := by
  obtain ⟨i0, hi, hz0, hz1, hz2⟩ := info_parts info5
  have hx : max (65535 : Int) 0 = 65535 := by decide
  go_enter Try.func20, Try.ntmps20
  go_wp2_with (first | (at_make; refine wpList_make_full _ rfl (.tmp 12) (.tmp 12) 65 rfl w.heap.size 5 i0 (.int .u8 0) 1 Try.underlying65 hi hz0 hz1 .i64 .i64 _ _ n rfl rfl rfl rfl (by rw [hz2]; omega) (by unfold maxLen; omega) (Nat.le_refl _) ?_; intro w1 hown hgrow))
  have hbel : Below w.heap.size w w1 := (Below.refl _ _).grown hgrow (Nat.le_refl _) (fun k h => by cases h)
  go_wp2
  go_loopw [16] (fun i wr => ∃ k : Nat, k ≤ n ∧ i = .int .i64 k ∧ Below w.heap.size w wr ∧ ∃ cs, wr.ownsRow w.heap.size 5 1 (.slice (some ⟨w.heap.size, 0, none⟩) n n) n cs ∧ ∀ j, j < k → cs[j]? = some (.int .u8 (ys.getD j 0 % 256))) (fun i _ => n - (intOf i).toNat)
  case atStart => exact ⟨0, Nat.zero_le _, rfl, hbel, _, hown, fun j hj => by omega⟩
  case round =>
    obtain ⟨k, hk, rfl, hbr, cs, ho, hcs⟩ := hrel
    by_cases hlt : k < n
    · have hr := h1.below hbr
      obtain ⟨x, rfl⟩ := h1.some_ (by omega)
      have cx := hr.cell x rfl k hlt
      have wz := h1.wf k
      have hlen := own_length ho
      have cell : wr.cell? ⟨w.heap.size, k, none⟩ = cs[k]? := ho.cellAt k (by omega)
      obtain ⟨u, hu⟩ : ∃ u, cs[k]? = some u := ⟨cs[k], by simp [hlen, hlt]⟩
      rw [hu] at cell
      have froz := ho.frozenAt k
      have st := fun v => ho.stored k v
      have step := fun v (h : v = Value.int .u8 (ys.getD k 0 % 256)) => set_step (F := fun j => Value.int .u8 (ys.getD j 0 % 256)) hlen hlt h hcs
      obtain ⟨X, eX⟩ : ∃ X, ys.getD k 0 = X := ⟨_, rfl⟩
      rw [eX] at cx wz step
      have R : Hid (Below w.heap.size w (wr.setCell ⟨w.heap.size, k, none⟩ (.int .u8 (X % 256))) ∧ ∃ cs', (wr.setCell ⟨w.heap.size, k, none⟩ (.int .u8 (X % 256))).ownsRow w.heap.size 5 1 (.slice (some ⟨w.heap.size, 0, none⟩) n n) n cs' ∧ ∀ j, j < k + 1 → cs'[j]? = some (.int .u8 (ys.getD j 0 % 256))) :=
        ⟨hbr.setCell (Nat.le_refl _) _, _, (st _).1, step _ rfl⟩
      clear eX step st hcs ho hu hlen hr hbr
      go_wp2
      go_roundw
      case rel => exact ⟨k + 1, by omega, by go_num, R.out⟩
      case measure => simp [intOf]; omega
    · have e : n = k := by omega
      subst e
      have fin := own_reads_at (k := .u8) (zs := ys.map (· % 256)) ho (by rw [List.length_map, h1.len]) (fun z hz => by obtain ⟨y, _, rfl⟩ := List.mem_map.1 hz; exact wf_u8 (by omega) (by omega)) (fun j hj => by rw [hcs j hj, map_getD _ _ _ (by rw [h1.len]; exact hj)])
      have cv : ∀ d os, (convert 65 9 (.slice (some ⟨w.heap.size, 0, none⟩) n n)).run Try.prog (grow (redrawn wr d) os) = .ok (.string T) (grow (redrawn wr d) os) := fun d os => by
        rw [E]; exact conv_row n (fin.below (below_regrown wr d os))
      have c10' : ∀ d os, Calls Try.prog 18 #[.int .i64 (n : Int)] (grow (redrawn wr d) os) fun e w'' => e = .returned (.string S) ∧ ∃ p : Regrown, w'' = grow (redrawn wr p.d) p.os := fun d os =>
        Calls.regrown_of ((c10 _).mono fun e w' ⟨he, hq⟩ => ⟨he, below_one hq⟩)
      clear hcs ho fin c10 hown hgrow E h1
      go_wp2
      refine wp_region_quiet_below (by kernel_rfl) (by kernel_rfl) ?_
      repeat (go_big_quiet_step (first | (go_at_call 18; exact c10' _ _)))
      refine wpQuiet_nil ?_
      intro _ hw'
      obtain ⟨⟨dq, osq⟩, hw''⟩ := hw'
      subst hw''
      go_wp2
      go_ret
      exact ⟨rfl, below_then hbr (below_regrown wr dq osq)⟩

theorem weights_many (a0 : Option Addr) (n c0 : Nat) (m : Nat) (em : Hid (m = 65535)) (hm : m ≤ 65535) (zs ys : List Int) (T S : ByteArray) (w : World) (h1 : Reads .i8 w a0 m ys) (hl : n ≤ c0) (hn : 65535 < n) (hn' : (65535 : Int) < (n : Int)) (hmax : n ≤ 9223372036854775807)
    (E : T = bytesOf (ys.map (· % 256))) (hT : T.size = m) (h2 : S.size = 2) (c10 : ∀ w, Calls Try.prog 18 #[.int .i64 (m : Int)] w fun e w' => e = .returned (.string S) ∧ ∃ o, w' = w.alloc o) :
    Calls Try.prog 20 #[.slice a0 n c0] w fun e w' => e = .returned (.string (S ++ T)) ∧ Below w.heap.size w w' := by
  obtain ⟨i0, hi, hz0, hz1, hz2⟩ := info_parts info5
  have hx : max (65535 : Int) 0 = 65535 := by decide
  go_enter Try.func20, Try.ntmps20
  go_wp2_with (first | (at_make; refine wpList_make_full _ rfl (.tmp 12) (.tmp 12) 65 rfl w.heap.size 5 i0 (.int .u8 0) 1 Try.underlying65 hi hz0 hz1 .i64 .i64 _ _ 65535 rfl rfl rfl rfl (by rw [hz2]; decide) (by unfold maxLen; decide) (Nat.le_refl _) ?_; intro w1 hown hgrow))
  rw [← em.out] at hown
  have hbel : Below w.heap.size w w1 := (Below.refl _ _).grown hgrow (Nat.le_refl _) (fun k h => by cases h)
  go_wp2
  rw [show (65535 : Int) = (m : Int) by rw [em.out]; rfl, ← em.out]
  go_loopw [16] (fun i wr => ∃ k : Nat, k ≤ m ∧ i = .int .i64 k ∧ Below w.heap.size w wr ∧ ∃ cs, wr.ownsRow w.heap.size 5 1 (.slice (some ⟨w.heap.size, 0, none⟩) m m) m cs ∧ ∀ j, j < k → cs[j]? = some (.int .u8 (ys.getD j 0 % 256))) (fun i _ => m - (intOf i).toNat)
  case atStart => exact ⟨0, Nat.zero_le _, rfl, hbel, _, hown, fun j hj => by omega⟩
  case round =>
    obtain ⟨k, hk, rfl, hbr, cs, ho, hcs⟩ := hrel
    by_cases hlt : k < m
    · have hr := h1.below hbr
      obtain ⟨x, rfl⟩ := h1.some_ (by omega)
      have cx := hr.cell x rfl k hlt
      have wz := h1.wf k
      have hlen := own_length ho
      have cell : wr.cell? ⟨w.heap.size, k, none⟩ = cs[k]? := ho.cellAt k (by omega)
      obtain ⟨u, hu⟩ : ∃ u, cs[k]? = some u := ⟨cs[k], by simp [hlen, hlt]⟩
      rw [hu] at cell
      have froz := ho.frozenAt k
      have st := fun v => ho.stored k v
      have step := fun v (h : v = Value.int .u8 (ys.getD k 0 % 256)) => set_step (F := fun j => Value.int .u8 (ys.getD j 0 % 256)) hlen hlt h hcs
      obtain ⟨X, eX⟩ : ∃ X, ys.getD k 0 = X := ⟨_, rfl⟩
      rw [eX] at cx wz step
      have R : Hid (Below w.heap.size w (wr.setCell ⟨w.heap.size, k, none⟩ (.int .u8 (X % 256))) ∧ ∃ cs', (wr.setCell ⟨w.heap.size, k, none⟩ (.int .u8 (X % 256))).ownsRow w.heap.size 5 1 (.slice (some ⟨w.heap.size, 0, none⟩) m m) m cs' ∧ ∀ j, j < k + 1 → cs'[j]? = some (.int .u8 (ys.getD j 0 % 256))) :=
        ⟨hbr.setCell (Nat.le_refl _) _, _, (st _).1, step _ rfl⟩
      clear eX step st hcs ho hu hlen hr hbr
      go_wp2
      go_roundw
      case rel => exact ⟨k + 1, by omega, by go_num, R.out⟩
      case measure => simp [intOf]; omega
    · have e : m = k := by omega
      subst e
      have fin := own_reads_at (k := .u8) (zs := ys.map (· % 256)) ho (by rw [List.length_map, h1.len]) (fun z hz => by obtain ⟨y, _, rfl⟩ := List.mem_map.1 hz; exact wf_u8 (by omega) (by omega)) (fun j hj => by rw [hcs j hj, map_getD _ _ _ (by rw [h1.len]; exact hj)])
      have cv : ∀ d os, (convert 65 9 (.slice (some ⟨w.heap.size, 0, none⟩) m m)).run Try.prog (grow (redrawn wr d) os) = .ok (.string T) (grow (redrawn wr d) os) := fun d os => by
        rw [E]; exact conv_row m (fin.below (below_regrown wr d os))
      have c10' : ∀ d os, Calls Try.prog 18 #[.int .i64 (m : Int)] (grow (redrawn wr d) os) fun e w'' => e = .returned (.string S) ∧ ∃ p : Regrown, w'' = grow (redrawn wr p.d) p.os := fun d os =>
        Calls.regrown_of ((c10 _).mono fun e w' ⟨he, hq⟩ => ⟨he, below_one hq⟩)
      clear hcs ho fin c10 hown hgrow E h1
      go_wp2
      refine wp_region_quiet_below (by kernel_rfl) (by kernel_rfl) ?_
      repeat (go_big_quiet_step (first | (go_at_call 18; exact c10' _ _)))
      refine wpQuiet_nil ?_
      intro _ hw'
      obtain ⟨⟨dq, osq⟩, hw''⟩ := hw'
      subst hw''
      go_wp2
      go_ret
      exact ⟨rfl, below_then hbr (below_regrown wr dq osq)⟩

theorem weights_call (a0 : Option Addr) (n c0 : Nat) (zs : List Int) (w : World) (h0 : Reads .i8 w a0 n zs) (hl : n ≤ c0) :
    Calls Try.prog 20 #[.slice a0 n c0] w fun e w' => e = .returned (.string (wtsS zs)) ∧ Below w.heap.size w w' := by
  have hT := wtsB_size zs
  have F : wtsS zs = two (min zs.length 65535 : Nat) ++ wtsB zs := rfl
  rw [F]
  rw [h0.len] at hT ⊢
  by_cases h : n ≤ 65535
  · rw [show min n 65535 = n by omega] at hT ⊢
    exact weights_few a0 n c0 zs zs _ _ w h0 hl h (by omega) h0.max (by unfold wtsB; rw [List.take_of_length_le (by rw [h0.len]; exact h)]) hT (two_size _) (fun w => two_call _ w (wf_i64 (by omega) (by omega)))
  · rw [show min n 65535 = 65535 by omega] at hT ⊢
    obtain ⟨m, em⟩ : ∃ m : Nat, m = 65535 := ⟨_, rfl⟩
    rw [← em] at hT ⊢
    exact weights_many a0 n c0 m em (by omega) zs (zs.take m) _ _ w (reads_take h0 (by omega)) hl (by omega) (by omega) h0.max (by unfold wtsB; rw [em]) hT (two_size _) (fun w => two_call _ w (wf_i64 (by omega) (by omega)))

end Go.Proofs.Ytbmlafgolmmekab
