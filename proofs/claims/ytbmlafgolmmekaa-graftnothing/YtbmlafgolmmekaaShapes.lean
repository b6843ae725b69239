/- Shape of any weights, the program's and the document's. -/
import Derived.Test.YtbmlafgolmmekaaRows
import Derived.Test.YtbmlafgolmmekaaView
import Derived.Test.YtbmlafgolmmekaaOwn
import Derived.Test.YtbmlafgolmmekaaCfg
import Derived.Test.YtbmlafgolmmekaaCfgs
import Derived.Test.YtbmlafgolmmekaaCfgRef
import Derived.Test.YtbmlafgolmmekaaHeld
import Derived.Test.YtbmlafgolmmekaaReader
import Derived.Test.YtbmlafgolmmekaaSls
import Derived.Test.YtbmlafgolmmekaaSteps
import Derived.Test.YtbmlafgolmmekaaInv
import Derived.Test.YtbmlafgolmmekaaTyped
import Derived.Test.YtbmlafgolmmekaaAds
import Derived.Test.YtbmlafgolmmekaaRanges
import Derived.Test.YtbmlafgolmmekaaCheck
import Derived.Test.YtbmlafgolmmekaaPlan
import Derived.Test.YtbmlafgolmmekaaFlat
import Derived.Test.YtbmlafgolmmekaaShape
import Derived.Test.YtbmlafgolmmekaaPush
import Derived.Test.YtbmlafgolmmekaaNext
import Derived.Test.YtbmlafgolmmekaaRefShape
import Derived.WalkKit
import Derived.ProofKit
import Derived.OpenShut
import Derived.Below
import Derived.WalkLawsBesides
import Derived.Deep.QuietTactic
import Derived.BigQuiet
import Derived.Lib.QuietBelow
import Derived.Deep.RegionHeld3
namespace Go.Proofs.Ytbmlafgolmmekaa
open Go.ChangeShapes Go.WideShapes Go.ChangeAt Go.RowKit
open Go.Sort hiding Below
set_option linter.unusedVariables false
set_option linter.unusedSimpArgs false


/-- do so many weights make an adapter -/
def shpOK (R S d h l v u x t n : Int) (k : Nat) : Bool := okA R S d h l v u x t n && decide ((k : Int) = l * 4 * (R * d))
def shpE (R S d h l v u x t n : Int) (k : Nat) : Int := if okA R S d h l v u x t n = true then (if (k : Int) = l * 4 * (R * d) then 0 else 21) else 20
def shpI (b : Bool) (z : Int) : Int := if b = true then z else 0
def shpM (R S d h l v u x t n : Int) (ws : List Int) : AdV := if shpOK R S d h l v u x t n ws.length = true then shapeV l.toNat (R * d).toNat ws else noA

/-- the numbers of what is right -/
structure NumsA (R d l : Int) (ml N T : Nat) : Prop where
  hl : l = (ml : Int)
  hN : R * d = (N : Int)
  hT : l * 4 * (R * d) = (T : Int)
  hT' : T = 4 * ml * N
  n0 : 0 < N
  n1 : N ≤ 32
  m0 : 0 < ml
  m1 : ml ≤ 2
  t1 : T ≤ 256
  t0 : 0 < T

theorem numsA_of {R S d h l v u x t n : Int} (ok : okA R S d h l v u x t n = true) : NumsA R d l l.toNat (R * d).toNat (l * 4 * (R * d)).toNat := by
  have r := rightA_of ok
  have r0 := r.r0
  have d0 := r.d0
  have l0 := r.l0
  have l1 := r.l1
  have p0 : 1 * 2 ≤ R * d := Int.mul_le_mul r0 d0 (by omega) (by omega)
  have p1 : R * d ≤ 4 * 8 := Int.mul_le_mul r.r1 r.d1 (by omega) (by omega)
  obtain ⟨N, hN⟩ : ∃ N, R * d = N := ⟨_, rfl⟩
  rw [hN] at p0 p1 ⊢
  have q0 : 4 * 2 ≤ l * 4 * N := Int.mul_le_mul (show 4 ≤ l * 4 by omega) p0 (by omega) (by omega)
  have q1 : l * 4 * N ≤ 8 * 32 := Int.mul_le_mul (show l * 4 ≤ 8 by omega) p1 (by omega) (by omega)
  have e : ((l * 4 * N).toNat : Int) = ((4 * l.toNat * N.toNat : Nat) : Int) := by
    rw [Int.toNat_of_nonneg (by omega)]
    push_cast
    rw [Int.toNat_of_nonneg (by omega), Int.toNat_of_nonneg (by omega), Int.mul_comm l 4]
  exact ⟨by omega, by omega, by rw [hN]; exact (Int.toNat_of_nonneg (by omega)).symm, by omega, by omega, by omega, by omega, by omega, by omega, by omega⟩


theorem shape_call (R S d h l v u x t n : Int) (s : SL) (ws : List Int) (w : World) (hs : IsS w s ws) :
    Calls Try.prog 20 #[.int .i64 R, .int .i64 S, .agg #[.int .i64 d, .int .i64 h, .int .i64 l, .int .i64 v, .int .i64 u, .int .i64 x, .int .i64 t, .int .i64 n], .slice s.a s.n s.c] w fun e w' => ∃ (L : SL) (Y : Nat → Nat → SL), e = .returned (.tuple #[.agg #[.int .i64 (shpI (shpOK R S d h l v u x t n ws.length) R), .int .i64 (shpI (shpOK R S d h l v u x t n ws.length) S), .slice L.a L.n L.c], .int .i64 (shpE R S d h l v u x t n ws.length)]) ∧ NewA w.heap.size w' L Y (shpM R S d h l v u x t n ws) ∧ Below w.heap.size w w' := by
  have kr := inRange_call R S d h l v u x t n
  have hl := hs.reads.len
  unfold shpM shpE
  cases ok : okA R S d h l v u x t n with
  | false =>
    have e : shpOK R S d h l v u x t n ws.length = false := by unfold shpOK; rw [ok]; rfl
    simp only [e, shpI, Bool.false_eq_true, if_false]
    simp only [ok] at kr
    exact (shape_bad R S d h l v u x t n s.a s.n s.c w kr).mono fun e w' ⟨he, hb⟩ => ⟨⟨none, 0, 0⟩, fun _ _ => SL.nought, he, NewA.none_ _ _ _, hb⟩
  | true =>
    simp only [ok] at kr
    have nu := numsA_of ok
    obtain ⟨ml, eml⟩ : ∃ ml, l.toNat = ml := ⟨_, rfl⟩
    obtain ⟨N, eN⟩ : ∃ N, (R * d).toNat = N := ⟨_, rfl⟩
    obtain ⟨T, eT⟩ : ∃ T, (l * 4 * (R * d)).toNat = T := ⟨_, rfl⟩
    rw [eml, eN, eT] at nu
    have n1 := nu.n1
    have m1 := nu.m1
    have t1 := nu.t1
    have t0 := nu.t0
    have hN := nu.hN
    have hT := nu.hT
    rw [hN] at hT
    rw [hN]
    by_cases c : (ws.length : Int) = l * 4 * (N : Int)
    · have e : shpOK R S d h l v u x t n ws.length = true := by unfold shpOK; rw [ok, hN]; simp [c]
      simp only [e, shpI, if_true, if_pos c, eml]
      have hn : s.n = T := by omega
      obtain ⟨x0, ex⟩ := hs.reads.some_ (by omega)
      have hr := hs.reads
      have hc := hs.cap
      rw [ex, hn] at hr ⊢
      rw [hn] at hc
      obtain rfl := nu.hl
      exact shape_yes R S d h v u x t n x0 ml N T s.c ws w hr hc nu.hT' (by omega) (by omega) (by omega) kr (size_call R d h ml v u x t n (N : Int) (T : Int) hN (by omega) (by omega) (ml * 4) rfl (by omega) (by omega) hT (by omega) (by omega)) (listSize_call R d h ml v u x t n (N : Int) hN (by omega) (by omega))
    · have e : shpOK R S d h l v u x t n ws.length = false := by unfold shpOK; rw [ok, hN]; simp [c]
      simp only [e, shpI, Bool.false_eq_true, if_false, if_true, if_neg c]
      refine (shape_len R S d h l v u x t n s.a s.n s.c w (T : Int) (by simp; omega) (by simp; omega) kr (size_call R d h l v u x t n (N : Int) (T : Int) hN (by omega) (by omega) (l * 4) rfl (by have := nu.hl; omega) (by have := nu.hl; omega) hT (by omega) (by omega))).mono fun e w' ⟨he, hb⟩ => ⟨⟨none, 0, 0⟩, fun _ _ => SL.nought, he, NewA.none_ _ _ _, hb⟩

theorem refShape_call (R S d h l v u x t n : Int) (s : SL) (ws : List Int) (w : World) (hs : IsS w s ws) :
    Calls Try.prog 21 #[.int .i64 R, .int .i64 S, .agg #[.int .i64 d, .int .i64 h, .int .i64 l, .int .i64 v, .int .i64 u, .int .i64 x, .int .i64 t, .int .i64 n], .slice s.a s.n s.c] w fun e w' => ∃ (L : SL) (Y : Nat → Nat → SL), e = .returned (.tuple #[.agg #[.int .i64 (shpI (shpOK R S d h l v u x t n ws.length) R), .int .i64 (shpI (shpOK R S d h l v u x t n ws.length) S), .slice L.a L.n L.c], .int .i64 (shpE R S d h l v u x t n ws.length)]) ∧ NewA w.heap.size w' L Y (shpM R S d h l v u x t n ws) ∧ Below w.heap.size w w' := by
  have kr := refRanges_call R S d h l v u x t n
  have hl := hs.reads.len
  unfold shpM shpE
  cases ok : okA R S d h l v u x t n with
  | false =>
    have e : shpOK R S d h l v u x t n ws.length = false := by unfold shpOK; rw [ok]; rfl
    simp only [e, shpI, Bool.false_eq_true, if_false]
    simp only [ok] at kr
    exact (refShape_bad R S d h l v u x t n s.a s.n s.c w kr).mono fun e w' ⟨he, hb⟩ => ⟨⟨none, 0, 0⟩, fun _ _ => SL.nought, he, NewA.none_ _ _ _, hb⟩
  | true =>
    simp only [ok] at kr
    have nu := numsA_of ok
    obtain ⟨ml, eml⟩ : ∃ ml, l.toNat = ml := ⟨_, rfl⟩
    obtain ⟨N, eN⟩ : ∃ N, (R * d).toNat = N := ⟨_, rfl⟩
    obtain ⟨T, eT⟩ : ∃ T, (l * 4 * (R * d)).toNat = T := ⟨_, rfl⟩
    rw [eml, eN, eT] at nu
    have n1 := nu.n1
    have m1 := nu.m1
    have t1 := nu.t1
    have t0 := nu.t0
    have hN := nu.hN
    have hT := nu.hT
    rw [hN] at hT
    rw [hN]
    by_cases c : (ws.length : Int) = l * 4 * (N : Int)
    · have e : shpOK R S d h l v u x t n ws.length = true := by unfold shpOK; rw [ok, hN]; simp [c]
      simp only [e, shpI, if_true, if_pos c, eml]
      have hn : s.n = T := by omega
      obtain ⟨x0, ex⟩ := hs.reads.some_ (by omega)
      have hr := hs.reads
      have hc := hs.cap
      rw [ex, hn] at hr ⊢
      rw [hn] at hc
      obtain rfl := nu.hl
      exact refShape_yes R S d h v u x t n x0 ml N T s.c ws w hr hc nu.hT' (by omega) (by omega) (by omega) hN (ml * 4) rfl hT kr
    · have e : shpOK R S d h l v u x t n ws.length = false := by unfold shpOK; rw [ok, hN]; simp [c]
      simp only [e, shpI, Bool.false_eq_true, if_false, if_true, if_neg c]
      refine (refShape_len R S d h l v u x t n s.a s.n s.c w (N : Int) (T : Int) (l * 4) hN (by omega) (by omega) rfl (by have := nu.hl; omega) (by have := nu.hl; omega) hT (by omega) (by omega) (by simp; omega) (by simp; omega) kr).mono fun e w' ⟨he, hb⟩ => ⟨⟨none, 0, 0⟩, fun _ _ => SL.nought, he, NewA.none_ _ _ _, hb⟩

theorem shape_at (R S d h l v u x t n : Int) (s : SL) (ws : List Int) (w : World) (hs : IsS w s ws) :
    Calls Try.prog 20 #[.int .i64 R, .int .i64 S, .agg #[.int .i64 d, .int .i64 h, .int .i64 l, .int .i64 v, .int .i64 u, .int .i64 x, .int .i64 t, .int .i64 n], .slice s.a s.n s.c] w fun e w' => ∃ (L : SL) (Y : Nat → Nat → SL), e = .returned (.tuple #[.agg #[.int .i64 (shpI (shpOK R S d h l v u x t n ws.length) R), .int .i64 (shpI (shpOK R S d h l v u x t n ws.length) S), .slice L.a L.n L.c], .int .i64 (shpE R S d h l v u x t n ws.length)]) ∧ AdAt w' L Y (shpM R S d h l v u x t n ws) ∧ Below w.heap.size w w' :=
  (shape_call R S d h l v u x t n s ws w hs).mono fun e w' ⟨L, Y, he, hn, hb⟩ => ⟨L, Y, he, hn.at_, hb⟩
theorem shpM_ln (R S d h l v u x t n : Int) (ws : List Int) : (shpM R S d h l v u x t n ws).ln ≤ 2 := by
  unfold shpM
  split
  · rename_i hk
    have ok : okA R S d h l v u x t n = true := by unfold shpOK at hk; simp at hk; exact hk.1
    exact (numsA_of ok).m1
  · show 0 ≤ 2
    omega

end Go.Proofs.Ytbmlafgolmmekaa
