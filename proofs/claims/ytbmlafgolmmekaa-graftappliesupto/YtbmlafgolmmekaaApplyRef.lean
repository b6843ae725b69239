/- What a pair of matrices makes of a row: the contract of the document's call. -/
import Derived.Test.YtbmlafgolmmekaaRows
import Derived.Test.YtbmlafgolmmekaaSat
import Derived.Test.YtbmlafgolmmekaaSatRef
import Derived.Test.YtbmlafgolmmekaaAdds
import Derived.Test.YtbmlafgolmmekaaView
import Derived.Test.YtbmlafgolmmekaaOwn
import Derived.Test.YtbmlafgolmmekaaHeld
import Derived.Test.YtbmlafgolmmekaaDots
import Derived.Test.YtbmlafgolmmekaaDotsRef
import Derived.Test.YtbmlafgolmmekaaFits
import Derived.Test.YtbmlafgolmmekaaMats
import Derived.Test.YtbmlafgolmmekaaMatsRef
import Derived.WalkKit
import Derived.ProofKit
import Derived.OpenShut
import Derived.Below
import Derived.WalkLawsBesides
import Derived.Test.YtbmlafgolmmekaaApply
namespace Go.Proofs.Ytbmlafgolmmekaa
open Go.ChangeShapes Go.WideShapes Go.ChangeAt Go.RowKit
set_option linter.unusedVariables false

theorem refApply_no1 (a0 : Option Addr) (na ca : Nat) (a1 : Option Addr) (nb cb : Nat) (rank shift : Int) (a2 : Option Addr) (d c2 : Nat) (w : World)
    (k47 : ∀ W, Calls Try.prog 49 #[.slice a0 na ca, .int .i64 rank, .slice a2 d c2] W fun e w' => e = .returned (.tuple #[.slice none 0 0, .int .i64 21]) ∧ w' = W) :
    Calls Try.prog 23 #[.slice a0 na ca, .slice a1 nb cb, .int .i64 rank, .int .i64 shift, .slice a2 d c2] w fun e w' => e = .returned (.tuple #[.slice none 0 0, .int .i64 21]) ∧ Below w.heap.size w w' := by
  go_enter Try.func23, Try.ntmps23
  go_wp2_with (go_at_call 49; refine (k47 _).mono ?_; rintro e w' ⟨rfl, h⟩; obtain rfl := h.symm)
  go_ret2
  exact ⟨rfl, Below.refl _ _⟩

theorem refApply_no2 (a0 : Option Addr) (na ca : Nat) (a1 : Option Addr) (nb cb : Nat) (rank shift : Int) (a2 : Option Addr) (d c2 R : Nat) (w : World) (hd : d ≤ 9223372036854775807)
    (k47 : ∀ W, Below w.heap.size w W → Calls Try.prog 49 #[.slice a0 na ca, .int .i64 rank, .slice a2 d c2] W fun e w' => (∃ a c, e = .returned (.tuple #[.slice a R c, .int .i64 0])) ∧ Below W.heap.size W w')
    (k47' : ∀ W a c, Calls Try.prog 49 #[.slice a1 nb cb, .int .i64 d, .slice a R c] W fun e w' => e = .returned (.tuple #[.slice none 0 0, .int .i64 21]) ∧ w' = W) :
    Calls Try.prog 23 #[.slice a0 na ca, .slice a1 nb cb, .int .i64 rank, .int .i64 shift, .slice a2 d c2] w fun e w' => e = .returned (.tuple #[.slice none 0 0, .int .i64 21]) ∧ Below w.heap.size w w' := by
  have hb := Below.refl w.heap.size w
  go_enter Try.func23, Try.ntmps23
  go_wp2_with (first
    | (go_at_call_of 49 rank; refine (k47 _ hb).mono ?_; rintro e w1 ⟨⟨a, c, rfl⟩, h⟩; replace hb := below_then hb h; clear h k47)
    | (go_at_call 49; refine (k47' _ a c).mono ?_; rintro e w' ⟨rfl, h⟩; obtain rfl := h.symm))
  go_ret2
  exact ⟨rfl, hb⟩

set_option maxRecDepth 8000 in
theorem refApply_yes (a0 : Option Addr) (na ca : Nat) (a1 : Option Addr) (nb cb : Nat) (rank shift : Int) (a2 : Option Addr) (d c2 R : Nat) (w : World) (ls : List Int) (rs : Nat → Int) (hd : d * 8 ≤ 140737488355328) (hs : (Lit.int .i64 shift).wf = true) (hrs : ∀ i, (Lit.int .i64 (rs i)).wf = true)
    (k49 : ∀ W, Below w.heap.size w W → Calls Try.prog 49 #[.slice a0 na ca, .int .i64 rank, .slice a2 d c2] W fun e w' => (∃ a c, e = .returned (.tuple #[.slice a R c, .int .i64 0]) ∧ Reads .i64 w' a R ls) ∧ Below W.heap.size W w')
    (k49' : ∀ W a c, Below w.heap.size w W → Reads .i64 W a R ls → Calls Try.prog 49 #[.slice a1 nb cb, .int .i64 d, .slice a R c] W fun e w' => (∃ a c, e = .returned (.tuple #[.slice a d c, .int .i64 0]) ∧ Reads .i64 w' a d ((List.range d).map rs)) ∧ Below W.heap.size W w') :
    Calls Try.prog 23 #[.slice a0 na ca, .slice a1 nb cb, .int .i64 rank, .int .i64 shift, .slice a2 d c2] w fun e w' => ∃ a c, e = .returned (.tuple #[.slice a d c, .int .i64 0]) ∧ Reads .i64 w' a d ((List.range d).map fun i => shiftZ (rs i) shift) ∧ Below w.heap.size w w' := by
  obtain ⟨i0, hi, hz0, hz1, hz2⟩ := info_parts info2
  have hb := Below.refl w.heap.size w
  go_enter Try.func23, Try.ntmps23
  go_wp2_with (first
    | (go_at_call_of 49 rank; refine (k49 _ hb).mono ?_; rintro e w1 ⟨⟨a, c, rfl, r1⟩, h⟩; replace hb := below_then hb h; clear h k49)
    | (go_at_call 49; refine (k49' _ a c hb r1).mono ?_; rintro e w2 ⟨⟨a', c', rfl, r2⟩, h⟩; replace hb := below_then hb h; clear h k49' r1))
  have HB := hidden_ hb
  clear hb
  go_loopw [15, 16] (fun v i wr => ∃ k : Nat, k ≤ d ∧ i = .int .i64 k ∧ Below w2.heap.size w2 wr ∧ wr.ownsRow w2.heap.size 2 1 v k (gath (fun i => shiftZ (rs i) shift) .i64 k)) (fun _ i _ => d - (intOf i).toNat)
  case atStart => exact ⟨0, Nat.zero_le _, rfl, Below.refl _ _, World.ownsRow_nil _ _ _ _⟩
  case round =>
    obtain ⟨k, hk, rfl, hbr, ho⟩ := hrel
    by_cases hlt : k < d
    · obtain ⟨x, rfl⟩ := r2.some_ (by omega)
      have cx := (r2.below hbr).cell x rfl k hlt
      have wk := hrs k
      obtain ⟨V, eV⟩ : ∃ V, rs k = V := ⟨_, rfl⟩
      rw [show ((List.range d).map rs).getD k 0 = V by simp [List.getD, hlt, eV]] at cx
      rw [eV] at wk
      have kp := refShift_call V shift wk hs
      obtain ⟨SV, eSV⟩ : ∃ SV, shiftZ V shift = SV := ⟨_, rfl⟩
      have Ev : Hid (SV = (fun i => shiftZ (rs i) shift) k) := by show SV = shiftZ (rs k) shift; rw [eV, eSV]
      simp only [eSV] at kp
      have hsz := hbr.size
      have HO := hidden_ ho
      have HBR := hidden_ hbr
      clear eSV eV hbr ho
      go_wp2_with (first
        | (go_at_call 50; refine (kp _).mono ?_; rintro e w' ⟨rfl, h⟩; obtain rfl := h.symm)
        | (at_builtin; refine wpList_append_own _ rfl (.tmp 44) (.tmp 51) 42 rfl w2.heap.size 2 i0 (.int .i64 0) 1 8 Try.underlying42 hi hz0 hz1 hz2 rfl (by decide) _ _ _ rfl (World.ownsRow.alloc (w := wr) HO.out _) ⟨_, 0, none⟩ 1 1 [.int .i64 SV] rfl rfl (one_new _ _ _) (one_oneCell _ _) (by unfold maxLen; omega) (by omega) (by simp; omega) ?_; intro v' w3 ho' hg _))
      go_roundw
      case rel => exact ⟨k + 1, by omega, by go_num, append_step (wr := wr) hsz Ev.out HBR.out HO.out ho' hg⟩
      case measure => simp [intOf]; omega
    · have e : k = d := by omega
      subst e
      have fin := own_reads (zs := (List.range k).map fun i => shiftZ (rs i) shift) ho (by simp) (fun z hz => by obtain ⟨y, _, rfl⟩ := List.mem_map.1 hz; exact wf_shiftZ _ _ (hrs y)) (fun j hj => by rw [gath_at _ _ _ _ hj]; simp [hj])
      obtain ⟨a, c, rfl, hr⟩ := fin
      clear ho
      go_wp2
      go_ret2
      exact ⟨_, _, rfl, hr, below_then HB.out hbr⟩

theorem refApply_call (a0 : Option Addr) (na ca : Nat) (za : List Int) (a1 : Option Addr) (nb cb : Nat) (zb : List Int) (rank shift : Int) (a2 : Option Addr) (d c2 : Nat) (xs : List Int) (w : World)
    (h0 : Reads .i8 w a0 na za) (hc0 : na ≤ ca) (h1 : Reads .i8 w a1 nb zb) (hc1 : nb ≤ cb) (h2 : Reads .i64 w a2 d xs) (hr : (Lit.int .i64 rank).wf = true) (hs : (Lit.int .i64 shift).wf = true) (hb : na * 8 ≤ 140737488355328) (hb2 : nb * 8 ≤ 140737488355328) :
    Calls Try.prog 23 #[.slice a0 na ca, .slice a1 nb cb, .int .i64 rank, .int .i64 shift, .slice a2 d c2] w fun e w' => ∃ a m c, e = .returned (.tuple #[.slice a m c, .int .i64 (applE za zb rank xs)]) ∧ Reads .i64 w' a m (applR za zb rank shift xs) ∧ Below w.heap.size w w' := by
  obtain rfl := h0.len
  obtain rfl := h1.len
  obtain rfl := h2.len
  unfold applE applR
  have hm := h0.max
  have hm1 := h1.max
  have hm2 := h2.max
  by_cases f1 : fitP za.length xs.length rank
  · obtain ⟨g1, g2, g3⟩ := f1
    have e : za.length = za.length / xs.length * xs.length := by have := Nat.div_add_mod za.length xs.length; rw [g2, Nat.mul_comm] at this; omega
    have hle := Nat.div_le_self za.length xs.length
    have kA := fun W (hW : Below w.heap.size w W) => refMat_fits a0 za.length ca za (za.length / xs.length) a2 xs.length c2 xs W (h0.below hW) hc0 (h2.below hW) g1 e (by omega)
    rw [g3] at kA
    by_cases f2 : fitP zb.length (za.length / xs.length) xs.length
    · have ok : applOK za zb rank xs := ⟨⟨g1, g2, g3⟩, f2⟩
      rw [if_pos ok, if_pos ok]
      obtain ⟨g4, g5, g6⟩ := f2
      have e' : zb.length = xs.length * (za.length / xs.length) := by have := Nat.div_add_mod zb.length (za.length / xs.length); rw [g5, Nat.mul_comm, show zb.length / (za.length / xs.length) = xs.length by omega] at this; omega
      have hle' := Nat.div_le_self zb.length (za.length / xs.length)
      refine (refApply_yes a0 za.length ca a1 zb.length cb rank shift a2 xs.length c2 (za.length / xs.length) w (lowL za xs) (rowZ zb (za.length / xs.length) (lowL za xs)) (by omega) hs (fun i => wf_clampZ _) (fun W hW => (kA W hW).mono fun e w' ⟨⟨a, c, he, hre⟩, hb⟩ => ⟨⟨a, c, he, hre⟩, hb⟩) (fun W a c hW hre => ?_)).mono fun e w' ⟨a, c, he, hre, hb⟩ => ⟨a, _, c, he, hre, hb⟩
      refine (refMat_fits a1 zb.length cb zb xs.length a (za.length / xs.length) c (lowL za xs) W (h1.below hW) hc1 hre g4 e' (by omega)).mono ?_
      rintro e w' ⟨⟨a, c, he, hre⟩, hb⟩
      exact ⟨⟨a, c, he, hre⟩, hb⟩
    · have no : ¬ applOK za zb rank xs := fun k => f2 k.2
      rw [if_neg no, if_neg no]
      refine (refApply_no2 a0 za.length ca a1 zb.length cb rank shift a2 xs.length c2 (za.length / xs.length) w hm2 (fun W hW => (kA W hW).mono fun e w' ⟨⟨a, c, he, _⟩, hb⟩ => ⟨⟨a, c, he⟩, hb⟩) (fun W a c => refMat_not a1 zb.length cb xs.length a (za.length / xs.length) c W hm1 (by omega) (WalkArith.wf_i64 ⟨by omega, by omega⟩) f2)).mono fun e w' ⟨he, hb⟩ => ⟨none, 0, 0, he, Reads.nil _ _, hb⟩
  · have no : ¬ applOK za zb rank xs := fun k => f1 k.1
    rw [if_neg no, if_neg no]
    exact (refApply_no1 a0 za.length ca a1 zb.length cb rank shift a2 xs.length c2 w (fun W => refMat_not a0 za.length ca rank a2 xs.length c2 W hm hm2 hr f1)).mono fun e w' ⟨he, hb⟩ => ⟨none, 0, 0, he, Reads.nil _ _, hb⟩

end Go.Proofs.Ytbmlafgolmmekaa
