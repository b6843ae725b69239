/- What the program's Turn gives back: contracts of the call. -/
import Derived.Test.YtjbjclphomeafaaRows
import Derived.Test.YtjbjclphomeafaaSat
import Derived.Test.YtjbjclphomeafaaView
import Derived.Test.YtjbjclphomeafaaOwn
import Derived.Test.YtjbjclphomeafaaTabs
import Derived.Test.YtjbjclphomeafaaPair
import Derived.WalkKit
import Derived.ProofKit
import Derived.OpenShut
import Derived.Below
import Derived.WalkLawsBesides
import Derived.Deep.RegionWith
namespace Go.Proofs.Ytjbjclphomeafaa
open Go.ChangeShapes Go.WideShapes Go.ChangeAt Go.RowKit
set_option linter.unusedVariables false

/-- the number at place j of a row that is turned by p -/
def turnF (xs : List Int) (p : Int) (j : Nat) : Int :=
  if j % 2 = 0 then turnA (xs.getD (2 * (j / 2)) 0) (xs.getD (2 * (j / 2) + 1) 0) (p * ((j / 2 : Nat) + 1)) else turnB (xs.getD (2 * (j / 2)) 0) (xs.getD (2 * (j / 2) + 1) 0) (p * ((j / 2 : Nat) + 1))

def turnZ (xs : List Int) (p : Int) (n : Nat) : List Int := (List.range n).map (turnF xs p)

theorem turnF_even (xs : List Int) (p : Int) (k : Nat) : turnF xs p (2 * k) = turnA (xs.getD (2 * k) 0) (xs.getD (2 * k + 1) 0) (p * (k + 1)) := by
  unfold turnF
  rw [if_pos (by omega), show 2 * k / 2 = k by omega]
theorem turnF_odd (xs : List Int) (p : Int) (k : Nat) : turnF xs p (2 * k + 1) = turnB (xs.getD (2 * k) 0) (xs.getD (2 * k + 1) 0) (p * (k + 1)) := by
  unfold turnF
  rw [if_neg (by omega), show (2 * k + 1) / 2 = k by omega]

theorem wf_turnF (xs : List Int) (p : Int) (j : Nat) : (Lit.int .i64 (turnF xs p j)).wf = true := by
  unfold turnF
  split
  · exact wf_clampZ _
  · exact wf_clampZ _

theorem own_below {w w' : World} {B : Nat} {e : TypeId} {v : Value} {n : Nat} {xs : List Value} (h : w.ownsRow B e 1 v n xs) (hb : Below w.heap.size w w') : w'.ownsRow B e 1 v n xs :=
  h.kept (row := none) ⟨hb.os, hb.tape, hb.output, hb.size, fun k hk _ => hb.block k hk⟩ (by
    cases v.ownBlock with
    | none => exact .inl rfl
    | some g => exact .inr (fun e => by cases e))

/-- two cells of an own row, one behind the other, are set: what the walk asks on the way, and what stands behind it -/
theorem pair_step {W : World} {B n i : Nat} {cs : List Value} {F : Nat → Int} {A C : Int} (hs : W.ownsRow B 2 1 (.slice (some ⟨B, 0, none⟩) n n) n cs) (hi : i + 1 < n)
    (hcs : ∀ j, j < i → cs[j]? = some (.int .i64 (F j))) (hA : Value.int .i64 A = .int .i64 (F i)) (hC : Value.int .i64 C = .int .i64 (F (i + 1))) :
    ∃ u u', W.cell? ⟨B, i, none⟩ = some u ∧ W.frozen? ⟨B, i, none⟩ = false ∧ (W.setCell ⟨B, i, none⟩ (.int .i64 A)).cell? ⟨B, i + 1, none⟩ = some u' ∧ (W.setCell ⟨B, i, none⟩ (.int .i64 A)).frozen? ⟨B, i + 1, none⟩ = false ∧
      ∃ cs', ((W.setCell ⟨B, i, none⟩ (.int .i64 A)).setCell ⟨B, i + 1, none⟩ (.int .i64 C)).ownsRow B 2 1 (.slice (some ⟨B, 0, none⟩) n n) n cs' ∧ ∀ j, j < i + 2 → cs'[j]? = some (.int .i64 (F j)) := by
  have hlen := own_length hs
  have s1 := (hs.stored i (.int .i64 A)).1
  have hlen1 := own_length s1
  have s2 := (s1.stored (i + 1) (.int .i64 C)).1
  have g1 := set_step (F := fun j => Value.int .i64 (F j)) hlen (by omega) hA hcs
  have g2 := set_step (F := fun j => Value.int .i64 (F j)) hlen1 hi hC g1
  refine ⟨cs[i], _, (hs.cellAt i (by omega)).trans (by simp), hs.frozenAt i, (s1.cellAt (i + 1) (by omega)).trans (List.getElem?_eq_getElem (by omega)), s1.frozenAt (i + 1), _, s2, g2⟩

set_option maxHeartbeats 2000000 in
theorem turn_ok (a0 : Option Addr) (h c0 : Nat) (xs : List Int) (p : Int) (w : World) (h0 : Reads .i64 w a0 (2 * h) xs) (hp : 0 ≤ p ∧ p ≤ 1000) (hb : 2 * h * 8 ≤ 281474976710656) :
    Calls Try.prog 8 #[.slice a0 (2 * h) c0, .int .i64 p] w fun e w' => (∃ a c, e = .returned (.tuple #[.slice a (2 * h) c, .int .i64 0]) ∧ Reads .i64 w' a (2 * h) (turnZ xs p (2 * h)) ∧ (a = none → c = 0)) ∧ Below w.heap.size w w' := by
  obtain ⟨i0, hi, hz0, hz1, hz2⟩ := info_parts info2
  obtain ⟨p0, p1⟩ := hp
  have hm := h0.max
  obtain ⟨n, en⟩ : ∃ n, 2 * h = n := ⟨_, rfl⟩
  rw [en] at h0 hb hm ⊢
  have ev : ((n : Int) % 2 == 0) = true := by simp; omega
  have hf : (n : Int) / 2 = (h : Int) := by omega
  unfold turnZ
  go_enter Try.func8, Try.ntmps8
  go_wp2_with (first
    | (at_make; refine wpList_make_full _ rfl (.tmp 19) (.tmp 19) 22 rfl w.heap.size 2 i0 (.int .i64 0) 1 Try.underlying22 hi hz0 hz1 .i64 .i64 _ _ n rfl rfl rfl rfl (by rw [hz2]; omega) (by unfold maxLen; omega) (Nat.le_refl _) ?_; intro w1 hown hgrow))
  have hbel : Below w.heap.size w w1 := (Below.refl _ _).grown hgrow (Nat.le_refl _) (fun k h => by cases h)
  go_wp2
  go_loopw [24] (fun i wr => ∃ k : Nat, k ≤ h ∧ i = .int .i64 k ∧ Below w.heap.size w wr ∧ ∃ cs, wr.ownsRow w.heap.size 2 1 (.slice (some ⟨w.heap.size, 0, none⟩) n n) n cs ∧ ∀ j, j < 2 * k → cs[j]? = some (.int .i64 (turnF xs p j))) (fun i _ => h - (intOf i).toNat)
  case atStart => exact ⟨0, Nat.zero_le _, rfl, hbel, _, hown, fun j hj => by omega⟩
  case round =>
    obtain ⟨k, hk, rfl, hbr, cs, ho, hcs⟩ := hrel
    by_cases hlt : k < h
    · have hr := h0.below hbr
      obtain ⟨x, rfl⟩ := h0.some_ (by omega)
      have cx := hr.cell x rfl (2 * k) (by omega)
      have cy := hr.cell x rfl (2 * k + 1) (by omega)
      have wx := h0.wf (2 * k)
      have wy := h0.wf (2 * k + 1)
      have hlen := own_length ho
      have eA := turnF_even xs p k
      have eB := turnF_odd xs p k
      have m0 : 0 ≤ p * ((k : Int) + 1) := Int.mul_nonneg p0 (by omega)
      have m1 : p * ((k : Int) + 1) ≤ 1000 * ((k : Int) + 1) := Int.mul_le_mul_of_nonneg_right p1 (by omega)
      obtain ⟨M, eM⟩ : ∃ M, p * ((k : Int) + 1) = M := ⟨_, rfl⟩
      rw [eM] at m0 m1 eA eB
      obtain ⟨X, eX⟩ : ∃ X, xs.getD (2 * k) 0 = X := ⟨_, rfl⟩
      obtain ⟨Y, eY⟩ : ∃ Y, xs.getD (2 * k + 1) 0 = Y := ⟨_, rfl⟩
      rw [eX] at cx wx
      rw [eY] at cy wy
      rw [eX, eY] at eA eB
      have kt := fun W => turned_call X Y M wx wy W
      rw [← eA, ← eB] at kt
      obtain ⟨A, eA'⟩ : ∃ A, turnF xs p (2 * k) = A := ⟨_, rfl⟩
      obtain ⟨B, eB'⟩ : ∃ B, turnF xs p (2 * k + 1) = B := ⟨_, rfl⟩
      rw [eA', eB'] at kt
      have step := fun (W : World) (hs : W.ownsRow w.heap.size 2 1 (.slice (some ⟨w.heap.size, 0, none⟩) n n) n cs) =>
        pair_step hs (i := 2 * k) (by omega) (fun j hj => hcs j hj) (A := A) (C := B) (by rw [eA']) (by rw [eB'])
      obtain ⟨i, ei⟩ : ∃ i, 2 * k = i := ⟨_, rfl⟩
      have ik : 2 * (k : Int) = (i : Int) := by omega
      have hin : i + 1 < n := by omega
      rw [ei] at cx cy
      rw [ei] at step
      obtain ⟨i', ei'⟩ : ∃ i', i + 1 = i' := ⟨_, rfl⟩
      rw [ei'] at cy step hin
      have ik' : (i : Int) + 1 = (i' : Int) := by omega
      have Ei' : Hid (i + 2 = 2 * (k + 1)) := show i + 2 = 2 * (k + 1) by omega
      have Ei : Hid (2 * k = i) := ei
      have v0 : IntKind.i64.wrap (i : Int) = i := by rw [IntKind.wrap_i64]; omega
      have v1 : IntKind.i64.wrap (i' : Int) = i' := by rw [IntKind.wrap_i64]; omega
      have v2 : IntKind.i64.wrap ((k : Int) + 1) = (k : Int) + 1 := by rw [IntKind.wrap_i64]; omega
      have v3 : IntKind.i64.wrap M = M := by rw [IntKind.wrap_i64]; omega
      have key : ∀ W2, Below wr.drew.heap.size wr.drew W2 → ∃ u u', W2.cell? ⟨w.heap.size, i, none⟩ = some u ∧ W2.frozen? ⟨w.heap.size, i, none⟩ = false ∧ (W2.setCell ⟨w.heap.size, i, none⟩ (.int .i64 A)).cell? ⟨w.heap.size, i', none⟩ = some u' ∧ (W2.setCell ⟨w.heap.size, i, none⟩ (.int .i64 A)).frozen? ⟨w.heap.size, i', none⟩ = false ∧
          Hid (Below w.heap.size w ((W2.setCell ⟨w.heap.size, i, none⟩ (.int .i64 A)).setCell ⟨w.heap.size, i', none⟩ (.int .i64 B)) ∧ ∃ cs', ((W2.setCell ⟨w.heap.size, i, none⟩ (.int .i64 A)).setCell ⟨w.heap.size, i', none⟩ (.int .i64 B)).ownsRow w.heap.size 2 1 (.slice (some ⟨w.heap.size, 0, none⟩) n n) n cs' ∧ ∀ j, j < i + 2 → cs'[j]? = some (.int .i64 (turnF xs p j))) := by
        intro W2 hb2'
        have hb2 : Below wr.heap.size wr W2 := ⟨hb2'.os, hb2'.tape, hb2'.output, hb2'.size, hb2'.block⟩
        obtain ⟨u, u', c2, f2, c3, f3, R'⟩ := step W2 (own_below ho hb2)
        exact ⟨u, u', c2, f2, c3, f3, ((below_then hbr hb2).setCell (Nat.le_refl _) _).setCell (Nat.le_refl _) _, R'⟩
      clear step ho hbr
      clear ei ei' eA eB eA' eB' eX eY hcs hr hown hgrow hbel hi hz0 hz1 hz2 h0 hf ev en
      go_wp2
      go_region_with (first
        | (go_at_call 15; refine (kt _).mono ?_; rintro e W2 ⟨rfl, hb2⟩; obtain ⟨u, u', c2, f2, c3, f3, R⟩ := key W2 hb2; clear hb2))
      all_goals
        go_wp2
        go_roundw
        case rel => exact ⟨k + 1, by omega, by go_num, R.out.1, by rw [← Ei'.out]; exact R.out.2⟩
        case measure => simp [intOf]; omega
    · have e : k = h := by omega
      subst e
      have fin := own_reads_at (zs := (List.range n).map (turnF xs p)) ho (by simp) (fun z hz => by obtain ⟨y, _, rfl⟩ := List.mem_map.1 hz; exact wf_turnF _ _ _) (fun j hj => by rw [hcs j (by omega)]; simp [hj])
      clear hcs ho
      go_wp2
      go_ret2
      exact ⟨⟨_, _, rfl, fin, fun h => by cases h⟩, hbr⟩

end Go.Proofs.Ytjbjclphomeafaa
