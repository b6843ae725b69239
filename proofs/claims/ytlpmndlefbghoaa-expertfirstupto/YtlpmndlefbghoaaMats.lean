/- What the products of a matrix's rows with a row give back: the contract of the program's call. -/
import Derived.Test.YtlpmndlefbghoaaRows
import Derived.Test.YtlpmndlefbghoaaSat
import Derived.Test.YtlpmndlefbghoaaAdds
import Derived.Test.YtlpmndlefbghoaaView
import Derived.Test.YtlpmndlefbghoaaOwn
import Derived.Test.YtlpmndlefbghoaaFitZ
import Derived.Test.YtlpmndlefbghoaaHeld
import Derived.WalkKit
import Derived.ProofKit
import Derived.OpenShut
import Derived.Below
import Derived.WalkLawsBesides
namespace Go.Proofs.Ytlpmndlefbghoaa
open Go.ChangeShapes Go.WideShapes Go.ChangeAt Go.RowKit
set_option linter.unusedVariables false

/-- the number of row i, of width d -/
def rowZ (ws : List Int) (d : Nat) (xs : List Int) (i : Nat) : Int := dotZ ((ws.drop (i * d)).take d) xs 6

theorem mat_fits (a0 : Option Addr) (n c0 : Nat) (ws : List Int) (R : Nat) (a2 : Option Addr) (d c2 : Nat) (xs : List Int) (w : World)
    (h0 : Reads .i8 w a0 n ws) (hc : n ≤ c0) (h2 : Reads .i64 w a2 d xs) (hd : 0 < d) (hn : n = R * d) (hb : R * 8 ≤ 281474976710656) :
    Calls Try.prog 38 #[.slice a0 n c0, .int .i64 R, .slice a2 d c2] w fun e w' => (∃ a c cs, e = .returned (.tuple #[.slice a R c, .int .i64 0]) ∧ Reads .i64 w' a R ((List.range R).map (rowZ ws d xs)) ∧ a = some ⟨w.heap.size, 0, none⟩ ∧ c = R ∧ w'.ownsRow w.heap.size 2 1 (.slice a R c) R cs ∧ ∀ j, j < R → cs[j]? = some (.int .i64 (rowZ ws d xs j))) ∧ Below w.heap.size w w' := by
  obtain ⟨i0, hi, hz0, hz1, hz2⟩ := info_parts info2
  have hm := h0.max
  have hm2 := h2.max
  have hf : decide (0 < d ∧ n % d = 0 ∧ ((n / d : Nat) : Int) = (R : Int)) = true := by
    subst hn
    simp [hd, Nat.mul_div_cancel R hd]
  have Hn : Hid (n = R * d) := hn
  clear hn
  have hR : (Lit.int .i64 (R : Int)).wf = true := WalkArith.wf_i64 ⟨by omega, by omega⟩
  have kf : ∀ W, Calls Try.prog 50 #[.int .i64 n, .int .i64 R, .int .i64 d] W fun e w' => e = .returned (.bool true) ∧ w' = W := fun W => by
    have := fits_call n d R hm hm2 hR W
    rwa [hf] at this
  clear hf
  go_enter Try.func38, Try.ntmps38
  go_wp2_with (first | (go_at_call 50; refine (kf _).mono ?_; rintro e w' ⟨rfl, h⟩; obtain rfl := h.symm) | (at_make; refine wpList_make_full _ rfl (.tmp 19) (.tmp 19) 24 rfl w.heap.size 2 i0 (.int .i64 0) 1 Try.underlying24 hi hz0 hz1 .i64 .i64 _ _ R rfl rfl rfl rfl (by rw [hz2]; omega) (by unfold maxLen; omega) (Nat.le_refl _) ?_; intro w1 hown hgrow))
  have hbel : Below w.heap.size w w1 := (Below.refl _ _).grown hgrow (Nat.le_refl _) (fun k h => by cases h)
  go_wp2
  go_loopw [23] (fun i wr => ∃ k : Nat, k ≤ R ∧ i = .int .i64 k ∧ Below w.heap.size w wr ∧ ∃ cs, wr.ownsRow w.heap.size 2 1 (.slice (some ⟨w.heap.size, 0, none⟩) R R) R cs ∧ ∀ j, j < k → cs[j]? = some (.int .i64 (rowZ ws d xs j))) (fun i _ => R - (intOf i).toNat)
  case atStart => exact ⟨0, Nat.zero_le _, rfl, hbel, _, hown, fun j hj => by omega⟩
  case round =>
    obtain ⟨k, hk, rfl, hbr, cs, ho, hcs⟩ := hrel
    by_cases hlt : k < R
    · obtain ⟨p, ep⟩ : ∃ p, k * d = p := ⟨_, rfl⟩
      have eq : (k + 1) * d = p + d := by rw [Nat.add_mul, ep]; omega
      have hq : p + d ≤ n := by rw [Hn.out, ← eq]; exact Nat.mul_le_mul_right d (by omega)
      have ip : (k : Int) * (d : Int) = (p : Int) := by rw [← ep]; simp
      have iq : ((k : Int) + 1) * (d : Int) = ((p + d : Nat) : Int) := by rw [← eq]; simp
      obtain ⟨q, eq'⟩ : ∃ q, p + d = q := ⟨_, rfl⟩
      rw [eq'] at iq
      have hr0 := h0.below hbr
      have hr2 := h2.below hbr
      obtain ⟨x, rfl⟩ := h0.some_ (by omega)
      have hcut := hr0.cut p d hq
      have hlen := own_length ho
      have cell : wr.cell? ⟨w.heap.size, k, none⟩ = cs[k]? := ho.cellAt k (by omega)
      obtain ⟨u, hu⟩ : ∃ u, cs[k]? = some u := ⟨cs[k], by simp [hlen, hlt]⟩
      rw [hu] at cell
      have froz := ho.frozenAt k
      have st := fun v => ho.stored k v
      have step := fun v (h : v = Value.int .i64 (rowZ ws d xs k)) => set_step (F := fun j => Value.int .i64 (rowZ ws d xs j)) hlen hlt h hcs
      have eV : rowZ ws d xs k = dotZ ((ws.drop p).take d) xs 6 := by unfold rowZ; rw [ep]
      obtain ⟨V, eV'⟩ : ∃ V, dotZ ((ws.drop p).take d) xs 6 = V := ⟨_, rfl⟩
      rw [eV, eV'] at step
      have kp : Calls Try.prog 51 #[.slice (some (x.add p)) d d, .slice a2 d c2, .int .i64 6] wr fun e w' => e = .returned (.int .i64 V) ∧ ∃ m, w' = wr.drewN m := by
        rw [← eV']
        exact products8_call _ _ _ _ _ _ _ _ _ hcut hr2 (by decide)
      have hsub : q - p = d := by omega
      have hne : ¬ q = p := by omega
      have hpq : (p : Int) ≤ (q : Int) := by omega
      have hqc : (q : Int) ≤ (c0 : Int) := by omega
      have hqm : (q : Int) ≤ 9223372036854775807 := by omega
      have R' : Hid (∀ m, Below w.heap.size w ((wr.drewN m).setCell ⟨w.heap.size, k, none⟩ (.int .i64 V)) ∧ ∃ cs', ((wr.drewN m).setCell ⟨w.heap.size, k, none⟩ (.int .i64 V)).ownsRow w.heap.size 2 1 (.slice (some ⟨w.heap.size, 0, none⟩) R R) R cs' ∧ ∀ j, j < k + 1 → cs'[j]? = some (.int .i64 (rowZ ws d xs j))) :=
        fun m => ⟨(below_drew hbr ⟨m, rfl⟩).setCell (Nat.le_refl _) _, _, (st _).1, step _ rfl⟩
      clear eq eq' ep eV eV' step st hcs ho hu hlen hr0 hr2 hbr hcut kf hown hgrow hbel h0 h2 hi hz0 hz1 hz2 hR
      go_wp2_with (go_at_call 51; refine kp.mono ?_; rintro e w' ⟨rfl, m, rfl⟩)
      go_roundw
      case rel => exact ⟨k + 1, by omega, by go_num, R'.out m⟩
      case measure => simp [intOf]; omega
    · have e : k = R := by omega
      subst e
      have fin := own_reads_at (zs := (List.range k).map (rowZ ws d xs)) ho (by simp) (fun z hz => by obtain ⟨y, _, rfl⟩ := List.mem_map.1 hz; exact wf_clampZ _) (fun j hj => by rw [hcs j hj]; simp [hj])
      have HO := hidden_ (And.intro ho hcs)
      clear hcs ho
      go_wp2
      go_ret2
      exact ⟨⟨_, _, _, rfl, fin, rfl, rfl, HO.out.1, HO.out.2⟩, hbr⟩

end Go.Proofs.Ytlpmndlefbghoaa
