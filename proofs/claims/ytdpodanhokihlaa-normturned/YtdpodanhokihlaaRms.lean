/- What the program's mean square, weighing and Rms give back: contracts of the calls. -/
import Derived.Test.YtdpodanhokihlaaRows
import Derived.Test.YtdpodanhokihlaaSat
import Derived.Test.YtdpodanhokihlaaAdds
import Derived.Test.YtdpodanhokihlaaView
import Derived.Test.YtdpodanhokihlaaOwn
import Derived.Test.YtdpodanhokihlaaRoot
import Derived.Test.YtdpodanhokihlaaOrder
import Derived.WalkKit
import Derived.ProofKit
import Derived.OpenShut
import Derived.Below
import Derived.WalkLawsBesides
import Derived.Deep.RegionWith
namespace Go.Proofs.Ytdpodanhokihlaa
open Go.ChangeShapes Go.WideShapes Go.ChangeAt Go.RowKit
set_option linter.unusedVariables false

/-- from nought on, the first k squares of clamped members, added one behind the other -/
def sqZ (z : List Int) : Nat → Int
  | 0 => 0
  | k + 1 => addZ (sqZ z k) (clampZ (z.getD k 0) * clampZ (z.getD k 0))

theorem wf_sqZ (z : List Int) (k : Nat) : (Lit.int .i64 (sqZ z k)).wf = true := by
  cases k with
  | zero => show (Lit.int .i64 0).wf = true; decide
  | succ k => exact wf_addZ _ _

theorem sq_nat (x : Int) (h : -2147483648 ≤ x ∧ x ≤ 2147483648) : 0 ≤ x * x ∧ x * x ≤ 4611686018427387904 := by
  have e : x * x = ((x.natAbs * x.natAbs : Nat) : Int) := by rw [← Int.natAbs_mul_self]
  have b : x.natAbs * x.natAbs ≤ 2147483648 * 2147483648 := Nat.mul_le_mul (by omega) (by omega)
  omega

theorem sq_prod (x : Int) : 0 ≤ clampZ x * clampZ x ∧ clampZ x * clampZ x ≤ 4611686018427387904 := by
  have b := clampZ_bounds x
  exact sq_nat _ ⟨by omega, by omega⟩

theorem sqZ_bounds (z : List Int) (k : Nat) : 0 ≤ sqZ z k ∧ sqZ z k ≤ 9223372036854775807 := by
  induction k with
  | zero => exact ⟨Int.le_refl _, show (0 : Int) ≤ 9223372036854775807 by decide⟩
  | succ k ih =>
    have p := sq_prod (z.getD k 0)
    show 0 ≤ addZ (sqZ z k) _ ∧ addZ (sqZ z k) _ ≤ _
    generalize clampZ (z.getD k 0) * clampZ (z.getD k 0) = P at *
    unfold addZ
    repeat' split
    all_goals omega

def meanZ (z : List Int) (n : Nat) : Int := clampZ (shiftZ ((sqZ z n).tdiv n) 16 + 1)

theorem tdiv_bounds (S : Int) (n : Nat) (h0 : 0 ≤ S) : 0 ≤ S.tdiv n ∧ S.tdiv n ≤ S := by
  rw [Int.tdiv_eq_ediv_of_nonneg h0]
  exact ⟨Int.ediv_nonneg h0 (Int.natCast_nonneg n), Int.ediv_le_self _ h0⟩

theorem shift16_bounds (x : Int) (h0 : 0 ≤ x) (h1 : x ≤ 9223372036854775807) : 0 ≤ shiftZ x 16 ∧ shiftZ x 16 ≤ 4611686018427387905 := by
  unfold shiftZ
  rw [if_neg (by omega), if_neg (by omega)]
  have := shN_bounds x (min 16 62) h0 (by omega) (by omega)
  omega

theorem meanSquare_call (a0 : Option Addr) (n c0 : Nat) (zs : List Int) (w : World) (h0 : Reads .i64 w a0 n zs) (hn : 0 < n) :
    Calls Try.prog 19 #[.slice a0 n c0] w fun e w' => e = .returned (.int .i64 (meanZ zs n)) ∧ w' = w := by
  have hm := h0.max
  unfold meanZ
  go_enter Try.func19, Try.ntmps19
  go_wp2
  go_loopw [3, 8] (fun s i wr => ∃ k : Nat, k ≤ n ∧ i = .int .i64 k ∧ s = .int .i64 (sqZ zs k) ∧ wr = w) (fun _ i _ => n - (intOf i).toNat)
  case atStart => exact ⟨0, Nat.zero_le _, rfl, rfl, rfl⟩
  case round =>
    obtain ⟨k, hk, rfl, rfl, hw⟩ := hrel
    subst hw
    by_cases hlt : k < n
    · obtain ⟨x, rfl⟩ := h0.some_ (by omega)
      have cx := h0.cell x rfl k hlt
      have es : sqZ zs (k + 1) = addZ (sqZ zs k) (clampZ (zs.getD k 0) * clampZ (zs.getD k 0)) := rfl
      have ws := wf_sqZ zs k
      obtain ⟨Z, eZ⟩ : ∃ Z, zs.getD k 0 = Z := ⟨_, rfl⟩
      obtain ⟨S, eS⟩ : ∃ S, sqZ zs k = S := ⟨_, rfl⟩
      rw [eZ] at cx es
      rw [eS] at es ws ⊢
      have Es : Hid (sqZ zs (k + 1) = addZ S (clampZ Z * clampZ Z)) := es
      clear eZ eS es
      have bp := sq_prod Z
      have wp : (Lit.int .i64 (clampZ Z * clampZ Z)).wf = true := WalkArith.wf_i64 ⟨by omega, by omega⟩
      go_wp2_with (first | (go_at_call 28; refine (clamp_call _ _).mono ?_; rintro e w' ⟨rfl, h⟩; obtain rfl := h.symm) | (go_at_call 35; refine (add_call _ _ ws wp _).mono ?_; rintro e w' ⟨rfl, h⟩; obtain rfl := h.symm))
      go_roundw
      case rel => exact ⟨k + 1, by omega, by go_num, by rw [Es.out], trivial⟩
      case measure => simp [intOf]; omega
    · have e : k = n := by omega
      subst e
      have sb := sqZ_bounds zs k
      obtain ⟨S, eS⟩ : ∃ S, sqZ zs k = S := ⟨_, rfl⟩
      rw [eS] at sb ⊢
      have ES : Hid (sqZ zs k = S) := eS
      clear eS
      have tb := tdiv_bounds S k sb.1
      obtain ⟨t0, t1⟩ := tb
      have t2 : S.tdiv k ≤ 9223372036854775807 := by omega
      have wq : (Lit.int .i64 (S.tdiv k)).wf = true := WalkArith.wf_i64 ⟨by omega, by omega⟩
      have shb := shift16_bounds (S.tdiv k) t0 t2
      obtain ⟨u0, u1⟩ := shb
      have kz : ((k : Int) == 0) = false := by simp; omega
      go_wp2_with (first | (go_at_call 36; refine (shift_call _ _ wq (by decide) _).mono ?_; rintro e w' ⟨rfl, h⟩; obtain rfl := h.symm) | (go_at_call 28; refine (clamp_call _ _).mono ?_; rintro e w' ⟨rfl, h⟩; obtain rfl := h.symm))
      go_ret
      exact ⟨by obtain rfl := ES.out; rfl, rfl⟩

def weighZ (x y : Int) : Int := clampZ (shiftZ (x * y) 6)

theorem weigh_bounds (x y : Int) (hx : -2147483648 ≤ x ∧ x ≤ 2147483647) (hy : -128 ≤ y ∧ y ≤ 127) : -274877906944 ≤ x * y ∧ x * y ≤ 274877906944 := by
  have h : (x * y).natAbs ≤ 2147483648 * 128 := by
    rw [Int.natAbs_mul]
    exact Nat.mul_le_mul (by omega) (by omega)
  omega

theorem wf_i8 {y : Int} (h : (Lit.int .i8 y).wf = true) : -128 ≤ y ∧ y ≤ 127 := by
  simpa [Lit.wf, IntKind.min, IntKind.max, IntKind.signed, IntKind.bits] using h

theorem weighed_call (x y : Int) (hx : -2147483648 ≤ x ∧ x ≤ 2147483647) (hy : (Lit.int .i8 y).wf = true) (w : World) :
    Calls Try.prog 20 #[.int .i64 x, .int .i8 y] w fun e w' => e = .returned (.int .i64 (weighZ x y)) ∧ w' = w := by
  have b8 := wf_i8 hy
  have bp := weigh_bounds x y hx b8
  obtain ⟨p0, p1⟩ := bp
  obtain ⟨b0, b1⟩ := b8
  obtain ⟨x0, x1⟩ := hx
  have wp : (Lit.int .i64 (x * y)).wf = true := WalkArith.wf_i64 ⟨by omega, by omega⟩
  unfold weighZ
  go_enter Try.func20, Try.ntmps20
  go_wp2_with (first | (go_at_call 36; refine (shift_call _ _ wp (by decide) _).mono ?_; rintro e w' ⟨rfl, h⟩; obtain rfl := h.symm) | (go_at_call 28; refine (clamp_call _ _).mono ?_; rintro e w' ⟨rfl, h⟩; obtain rfl := h.symm))
  go_ret
  exact ⟨rfl, rfl⟩

theorem mulZ_bounds (a b : Int) : -2147483648 ≤ mulZ a b ∧ mulZ a b ≤ 2147483647 := clampZ_bounds _

theorem rsqrtZ_bounds (x : Int) : 0 ≤ rsqrtZ x ∧ rsqrtZ x ≤ 2147483647 := by
  unfold rsqrtZ
  split
  · omega
  · have q := quot_bounds (clampZ x) (by omega)
    have s := rootZ_spec _ q.1 q.2
    have m := rootZ_most _ q.1 q.2
    omega

/-- one number of Rms, where r is one divided by the root -/
def rmsF (xs ws : List Int) (r : Int) (j : Nat) : Int := weighZ (mulZ (xs.getD j 0) r) (ws.getD j 0)

def rmsZ (xs ws : List Int) (n : Nat) : List Int := (List.range n).map (rmsF xs ws (rsqrtZ (meanZ xs n)))

set_option maxHeartbeats 2000000 in
theorem rms_same (a0 : Option Addr) (n c0 : Nat) (xs : List Int) (a1 : Option Addr) (c1 : Nat) (ys : List Int) (w : World) (h0 : Reads .i64 w a0 n xs) (h1 : Reads .i8 w a1 n ys) (hn : 0 < n) (hb : n * 8 ≤ 281474976710656) :
    Calls Try.prog 9 #[.slice a0 n c0, .slice a1 n c1] w fun e w' => (∃ a c, e = .returned (.tuple #[.slice a n c, .int .i64 0]) ∧ Reads .i64 w' a n (rmsZ xs ys n)) ∧ Below w.heap.size w w' := by
  obtain ⟨i0, hi, hz0, hz1, hz2⟩ := info_parts info2
  have hm := h0.max
  have rb := rsqrtZ_bounds (meanZ xs n)
  have kms := meanSquare_call a0 n c0 xs w h0 hn
  have krs := fun W => rsqrt_call (meanZ xs n) W
  unfold rmsZ
  obtain ⟨r, er⟩ : ∃ r, rsqrtZ (meanZ xs n) = r := ⟨_, rfl⟩
  obtain ⟨M, eM⟩ : ∃ M, meanZ xs n = M := ⟨_, rfl⟩
  rw [er] at rb ⊢
  rw [er] at krs
  rw [eM] at kms krs
  clear er eM
  have wr' : (Lit.int .i64 r).wf = true := WalkArith.wf_i64 ⟨by omega, by omega⟩
  have nz : ((n : Int) == 0) = false := by simp; omega
  go_enter Try.func9, Try.ntmps9
  go_wp2_with (first
    | (go_at_call 19; refine kms.mono ?_; rintro e w' ⟨rfl, h⟩; obtain rfl := h.symm)
    | (go_at_call 18; refine (krs _).mono ?_; rintro e w' ⟨rfl, h⟩; obtain rfl := h.symm)
    | (at_make; refine wpList_make_full _ rfl (.tmp 23) (.tmp 23) 22 rfl w.heap.size 2 i0 (.int .i64 0) 1 Try.underlying22 hi hz0 hz1 .i64 .i64 _ _ n rfl rfl rfl rfl (by rw [hz2]; omega) (by unfold maxLen; omega) (Nat.le_refl _) ?_; intro w1 hown hgrow))
  have hbel : Below w.heap.size w w1 := (Below.refl _ _).grown hgrow (Nat.le_refl _) (fun k h => by cases h)
  go_wp2
  go_loopw [27] (fun i wr => ∃ k : Nat, k ≤ n ∧ i = .int .i64 k ∧ Below w.heap.size w wr ∧ ∃ cs, wr.ownsRow w.heap.size 2 1 (.slice (some ⟨w.heap.size, 0, none⟩) n n) n cs ∧ ∀ j, j < k → cs[j]? = some (.int .i64 (rmsF xs ys r j))) (fun i _ => n - (intOf i).toNat)
  case atStart => exact ⟨0, Nat.zero_le _, rfl, hbel, _, hown, fun j hj => by omega⟩
  case round =>
    obtain ⟨k, hk, rfl, hbr, cs, ho, hcs⟩ := hrel
    by_cases hlt : k < n
    · have hr := h0.below hbr
      have hq := h1.below hbr
      obtain ⟨x, rfl⟩ := h0.some_ (by omega)
      obtain ⟨y, rfl⟩ := h1.some_ (by omega)
      have cx := hr.cell x rfl k hlt
      have cy := hq.cell y rfl k hlt
      have wx := h0.wf k
      have wy := h1.wf k
      have hlen := own_length ho
      have cell : wr.cell? ⟨w.heap.size, k, none⟩ = cs[k]? := ho.cellAt k (by omega)
      obtain ⟨u, hu⟩ : ∃ u, cs[k]? = some u := ⟨cs[k], by simp [hlen, hlt]⟩
      rw [hu] at cell
      have froz := ho.frozenAt k
      have st := fun v => ho.stored k v
      have step := fun v (h : v = Value.int .i64 (rmsF xs ys r k)) => set_step (F := fun j => Value.int .i64 (rmsF xs ys r j)) hlen hlt h hcs
      obtain ⟨X, eX⟩ : ∃ X, xs.getD k 0 = X := ⟨_, rfl⟩
      obtain ⟨Y, eY⟩ : ∃ Y, ys.getD k 0 = Y := ⟨_, rfl⟩
      have eP : rmsF xs ys r k = weighZ (mulZ X r) Y := by unfold rmsF; rw [eX, eY]
      rw [eX] at cx wx
      rw [eY] at cy wy
      rw [eP] at step
      have R : Hid (Below w.heap.size w (wr.setCell ⟨w.heap.size, k, none⟩ (.int .i64 (weighZ (mulZ X r) Y))) ∧ ∃ cs', (wr.setCell ⟨w.heap.size, k, none⟩ (.int .i64 (weighZ (mulZ X r) Y))).ownsRow w.heap.size 2 1 (.slice (some ⟨w.heap.size, 0, none⟩) n n) n cs' ∧ ∀ j, j < k + 1 → cs'[j]? = some (.int .i64 (rmsF xs ys r j))) :=
        ⟨hbr.setCell (Nat.le_refl _) _, _, (st _).1, step _ rfl⟩
      have mb := mulZ_bounds X r
      clear eX eY eP step st hcs ho hu hlen hr hbr hq hown hgrow hbel h0 h1 hi hz0 hz1 hz2 kms krs
      go_wp2
      go_region_with (first
        | (go_at_call 21; refine (mul_call _ _ wx wr' _).mono ?_; rintro e w' ⟨rfl, rfl⟩)
        | (go_at_call 20; refine (weighed_call _ _ mb wy _).mono ?_; rintro e w' ⟨rfl, rfl⟩))
      all_goals
        go_wp2
        go_roundw
        case rel => exact ⟨k + 1, by omega, by go_num, R.out.1.drew, R.out.2⟩
        case measure => simp [intOf]; omega
    · have e : k = n := by omega
      subst e
      have fin := own_reads_at (zs := (List.range k).map (rmsF xs ys r)) ho (by simp) (fun z hz => by obtain ⟨y, _, rfl⟩ := List.mem_map.1 hz; exact wf_clampZ _) (fun j hj => by rw [hcs j hj]; simp [hj])
      clear hcs ho
      go_wp2
      go_ret2
      exact ⟨⟨_, _, rfl, fin⟩, hbr⟩

theorem rms_wrong (a0 : Option Addr) (n0 c0 : Nat) (a1 : Option Addr) (n1 c1 : Nat) (w : World) (h : ¬(0 < n0 ∧ n0 = n1)) :
    Calls Try.prog 9 #[.slice a0 n0 c0, .slice a1 n1 c1] w fun e w' => e = .returned (.tuple #[.slice none 0 0, .int .i64 21]) ∧ w' = w := by
  by_cases z : n0 = 0
  · have z' : ((n0 : Int) == 0) = true := by simp; omega
    go_enter Try.func9, Try.ntmps9
    go_wp2_with fail
    go_ret2
    exact ⟨rfl, rfl⟩
  · have z' : ((n0 : Int) == 0) = false := by simp; omega
    have e' : ((n0 : Int) == (n1 : Int)) = false := by simp; omega
    go_enter Try.func9, Try.ntmps9
    go_wp2_with fail
    go_ret2
    exact ⟨rfl, rfl⟩

theorem rms_call (a0 : Option Addr) (n0 c0 : Nat) (xs : List Int) (a1 : Option Addr) (n1 c1 : Nat) (ys : List Int) (w : World) (h0 : Reads .i64 w a0 n0 xs) (h1 : Reads .i8 w a1 n1 ys) (hb : n0 * 8 ≤ 281474976710656) :
    Calls Try.prog 9 #[.slice a0 n0 c0, .slice a1 n1 c1] w fun e w' => (∃ a m c, e = .returned (.tuple #[.slice a m c, .int .i64 (if 0 < n0 ∧ n0 = n1 then 0 else 21)]) ∧ Reads .i64 w' a m (if 0 < n0 ∧ n0 = n1 then rmsZ xs ys n0 else [])) ∧ Below w.heap.size w w' := by
  by_cases e : 0 < n0 ∧ n0 = n1
  · obtain ⟨e0, rfl⟩ := e
    simp only [e0, and_self, if_true]
    exact (rms_same _ _ _ _ _ _ _ _ h0 h1 e0 hb).mono fun e w' ⟨⟨a, c, he, hr⟩, hw⟩ => ⟨⟨a, _, c, he, hr⟩, hw⟩
  · simp only [if_neg e]
    exact (rms_wrong _ _ _ _ _ _ _ e).mono fun e w' ⟨he, hw⟩ => ⟨⟨none, 0, 0, he, Reads.nil _ _⟩, hw ▸ Below.refl _ _⟩

end Go.Proofs.Ytdpodanhokihlaa
