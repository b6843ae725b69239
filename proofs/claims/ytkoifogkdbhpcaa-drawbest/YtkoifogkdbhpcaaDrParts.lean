/- What the program's inner functions cooled, total and reached give back: contracts of the calls. -/
import Derived.Test.YtkoifogkdbhpcaaRows
import Derived.Test.YtkoifogkdbhpcaaSat
import Derived.Test.YtkoifogkdbhpcaaView
import Derived.Test.YtkoifogkdbhpcaaOwn
import Derived.Test.YtkoifogkdbhpcaaSoft
import Derived.Test.YtkoifogkdbhpcaaDrZ
import Derived.WalkKit
import Derived.ProofKit
import Derived.OpenShut
import Derived.WalkLawsBesides
import Derived.Below
import Derived.Deep.QuietTactic
import Derived.BigQuiet
namespace Go.Proofs.Ytkoifogkdbhpcaa
open Go.ChangeShapes Go.WideShapes Go.ChangeAt Go.RowKit
set_option maxRecDepth 20000
set_option linter.unusedVariables false

theorem wrap_small {n : Int} (h0 : 0 ≤ n) (h1 : n ≤ 9223372036854775807) : IntKind.u64.wrap n = n := by
  rw [IntKind.wrap_u64]; omega

theorem total_call (a0 : Option Addr) (n c0 : Nat) (p : List Int) (w : World) (h0 : Reads .i64 w a0 n p) (hp : Fair p) (hn : n ≤ 1000000) :
    Calls Try.prog 23 #[.slice a0 n c0] w fun e w' => e = .returned (.int .u64 (upTo p n)) ∧ w' = w := by
  go_enter Try.func23, Try.ntmps23
  go_wp2
  go_loopw [3, 8] (fun s i wr => ∃ k : Nat, k ≤ n ∧ i = .int .i64 k ∧ s = .int .u64 (upTo p k) ∧ wr = w) (fun _ i _ => n - (intOf i).toNat)
  case atStart => exact ⟨0, Nat.zero_le _, rfl, rfl, rfl⟩
  case round =>
    obtain ⟨k, hk, rfl, rfl, hw⟩ := hrel
    subst hw
    by_cases hlt : k < n
    · obtain ⟨x, rfl⟩ := h0.some_ (by omega)
      have cx := h0.cell x rfl k hlt
      have es := upTo_succ p k
      have b := upTo_bounds hp k
      have bz := hp k
      obtain ⟨Z, eZ⟩ : ∃ Z, p.getD k 0 = Z := ⟨_, rfl⟩
      obtain ⟨S, eS⟩ : ∃ S, upTo p k = S := ⟨_, rfl⟩
      rw [eZ] at cx es bz
      rw [eS] at es b ⊢
      have e1 : IntKind.u64.wrap (S + IntKind.u64.wrap Z) = S + Z := by rw [wrap_small bz.1 (by omega), wrap_small (by omega) (by omega)]
      have Es : Hid (upTo p (k + 1) = S + Z) := es
      have E1 : Hid (IntKind.u64.wrap (S + IntKind.u64.wrap Z) = S + Z) := e1
      clear eZ eS es e1 bz b
      go_wp2
      all_goals
        go_roundw
        case rel => exact ⟨k + 1, by omega, by go_num, by rw [Es.out, E1.out], trivial⟩
        case measure => simp [intOf]; omega
    · have e : k = n := by omega
      subst e
      go_wp2
      go_ret
      exact ⟨rfl, rfl⟩

theorem reached_call (a0 : Option Addr) (n c0 : Nat) (p : List Int) (r : Int) (w : World) (h0 : Reads .i64 w a0 n p) (hp : Fair p) (hn : n ≤ 1000000) (r0 : 0 ≤ r) (r1 : r < upTo p n) :
    Calls Try.prog 24 #[.slice a0 n c0, .int .u64 r] w fun e w' => e = .returned (.int .i64 (seatZ p n r)) ∧ w' = w := by
  have hpos : 0 < n := by
    rcases Nat.eq_zero_or_pos n with h | h
    · rw [h] at r1
      have : upTo p 0 = 0 := rfl
      omega
    · exact h
  have hb := upTo_bounds hp n
  have hr : r ≤ 9223372036854775807 := by omega
  obtain ⟨x, rfl⟩ := h0.some_ hpos
  clear hb
  have R1 : Hid (r < upTo p n) := r1
  clear r1
  go_enter Try.func24, Try.ntmps24
  go_wp2
  go_loopw [1, 5] (fun l i wr => ∃ k : Nat, k < n ∧ i = .int .i64 k ∧ (∃ q : Int, l = .int .u64 q ∧ q = r - upTo p k ∧ 0 ≤ q) ∧ wr = w) (fun _ i _ => n - (intOf i).toNat)
  case atStart => exact ⟨0, hpos, rfl, ⟨r, rfl, by show r = r - 0; omega, r0⟩, rfl⟩
  case round =>
    obtain ⟨k, hk, rfl, ⟨q, rfl, eq, q0⟩, hw⟩ := hrel
    subst hw
    have cx := h0.cell x rfl k hk
    have es := upTo_succ p k
    have b := upTo_bounds hp k
    have bz := hp k
    have so := fun (h : upTo p k ≤ r) (h' : r < upTo p (k + 1)) => seat_of hp hk h h'
    have nx : upTo p (k + 1) ≤ r → k + 1 < n := fun h => by
      by_cases e : k + 1 = n
      · have := R1.out
        rw [e] at h
        omega
      · omega
    obtain ⟨Z, eZ⟩ : ∃ Z, p.getD k 0 = Z := ⟨_, rfl⟩
    rw [eZ] at cx es bz
    have eZw : IntKind.u64.wrap Z = Z := wrap_small bz.1 (by omega)
    by_cases hq : Z ≤ q
    · have nx' := nx (by omega)
      have eW : IntKind.u64.wrap (q - Z) = q - Z := wrap_small (by omega) (by omega)
      have Rq : Hid (q - Z = r - upTo p (k + 1) ∧ 0 ≤ q - Z) := ⟨by omega, by omega⟩
      clear es b so nx eq eZ
      go_wp2
      all_goals (try (exfalso; omega))
      all_goals
        go_roundw
        case rel => exact ⟨k + 1, nx', by go_num, ⟨_, rfl, Rq.out.1, Rq.out.2⟩, trivial⟩
        case measure => simp [intOf]; omega
    · have so' := so (by omega) (by omega)
      clear es b so nx eq eZ
      go_wp2
      all_goals (try (exfalso; omega))
      go_ret
      exact ⟨rfl, rfl⟩

set_option maxHeartbeats 1000000 in
theorem cooled_call (a0 : Option Addr) (n c0 : Nat) (xs : List Int) (a1 : Option Addr) (m c1 : Nat) (ps : List Int) (L : List Nat) (h : Int) (w : World) (h0 : Reads .i64 w a0 n xs) (h1 : Reads .i64 w a1 m ps) (hps : ∀ j, j < m → ps.getD j 0 = (L.getD j 0 : Nat) ∧ L.getD j 0 < n) (hh : (Lit.int .i64 h).wf = true) (hb : m * 8 ≤ 281474976710656) :
    Calls Try.prog 22 #[.slice a0 n c0, .slice a1 m c1, .int .i64 h] w fun e w' => (∃ a c, e = .returned (.slice a m c) ∧ Reads .i64 w' a m ((List.range m).map fun j => divZ (xs.getD (L.getD j 0) 0) h)) ∧ Below w.heap.size w w' := by
  obtain ⟨i0, hi, hz0, hz1, hz2⟩ := info_parts info2
  have hm0 := h0.max
  have hm1 := h1.max
  go_enter Try.func22, Try.ntmps22
  go_wp2_with (at_make; refine wpList_make_full _ rfl (.tmp 11) (.tmp 11) 29 rfl w.heap.size 2 i0 (.int .i64 0) 1 Try.underlying29 hi hz0 hz1 .i64 .i64 _ _ m rfl rfl rfl rfl (by rw [hz2]; omega) (by unfold maxLen; omega) (Nat.le_refl _) ?_; intro w1 hown hgrow)
  have hbel : Below w.heap.size w w1 := (Below.refl _ _).grown hgrow (Nat.le_refl _) (fun k h => by cases h)
  go_wp2
  go_loopw [15] (fun i wr => ∃ k : Nat, k ≤ m ∧ i = .int .i64 k ∧ Below w.heap.size w wr ∧ ∃ cs, wr.ownsRow w.heap.size 2 1 (.slice (some ⟨w.heap.size, 0, none⟩) m m) m cs ∧ ∀ j, j < k → cs[j]? = some (.int .i64 (divZ (xs.getD (L.getD j 0) 0) h))) (fun i _ => m - (intOf i).toNat)
  case atStart => exact ⟨0, Nat.zero_le _, rfl, hbel, _, hown, fun j hj => by omega⟩
  case round =>
    obtain ⟨k, hk, rfl, hbr, cs, ho, hcs⟩ := hrel
    by_cases hlt : k < m
    · have hr0 := h0.below hbr
      have hr1 := h1.below hbr
      obtain ⟨y, rfl⟩ := h1.some_ (by omega)
      have cy := hr1.cell y rfl k hlt
      obtain ⟨ep, lp⟩ := hps k hlt
      obtain ⟨x, rfl⟩ := h0.some_ (by omega)
      rw [ep] at cy
      have cx := hr0.cell x rfl (L.getD k 0) lp
      have wx := h0.wf (L.getD k 0)
      have hlen := own_length ho
      have kd := fun W => div_call (xs.getD (L.getD k 0) 0) h wx hh W
      have ed : divZ (xs.getD (L.getD k 0) 0) h = divZ (xs.getD (L.getD k 0) 0) h := rfl
      obtain ⟨D, eD⟩ : ∃ D, divZ (xs.getD (L.getD k 0) 0) h = D := ⟨_, rfl⟩
      rw [eD] at kd
      have step := (ho.stored k (.int .i64 D)).1
      have st2 := set_step (F := fun j => Value.int .i64 (divZ (xs.getD (L.getD j 0) 0) h)) hlen hlt (show Value.int .i64 D = .int .i64 (divZ (xs.getD (L.getD k 0) 0) h) by rw [eD]) hcs
      obtain ⟨X, eX⟩ : ∃ X, xs.getD (L.getD k 0) 0 = X := ⟨_, rfl⟩
      rw [eX] at cx kd
      obtain ⟨P, eP⟩ : ∃ P, L.getD k 0 = P := ⟨_, rfl⟩
      rw [eP] at cx cy lp
      obtain ⟨u, hu⟩ : ∃ u, cs[k]? = some u := ⟨cs[k], by simp [hlen, hlt]⟩
      have cell2 : wr.cell? ⟨w.heap.size, k, none⟩ = some u := (ho.cellAt k (by omega)).trans hu
      have froz := ho.frozenAt k
      have R : Hid (Below w.heap.size w (wr.setCell ⟨w.heap.size, k, none⟩ (.int .i64 D)) ∧ ∃ cs', (wr.setCell ⟨w.heap.size, k, none⟩ (.int .i64 D)).ownsRow w.heap.size 2 1 (.slice (some ⟨w.heap.size, 0, none⟩) m m) m cs' ∧ ∀ j, j < k + 1 → cs'[j]? = some (.int .i64 (divZ (xs.getD (L.getD j 0) 0) h))) :=
        ⟨hbr.setCell (Nat.le_refl _) _, _, step, st2⟩
      clear step st2 ed eD eX eP ep wx hr0 hr1 hown hgrow hbel hi hz0 hz1 hz2 hps hcs ho hbr hlen hu
      go_wp2_with (go_at_call 38; refine (kd _).mono ?_; rintro e w' ⟨rfl, h⟩; obtain rfl := h.symm)
      go_roundw
      case rel => exact ⟨k + 1, by omega, by go_num, R.out⟩
      case measure => simp [intOf]; omega
    · have e : k = m := by omega
      subst e
      have fin := own_reads_at (zs := (List.range k).map fun j => divZ (xs.getD (L.getD j 0) 0) h) ho (by simp) (fun z hz => by obtain ⟨y, _, rfl⟩ := List.mem_map.1 hz; exact wf_divZ _ _) (fun i hi => by rw [hcs i hi]; simp [hi])
      go_wp2
      go_ret
      exact ⟨⟨_, _, rfl, fin⟩, hbr⟩

end Go.Proofs.Ytkoifogkdbhpcaa
