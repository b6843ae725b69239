/- The weights that the statements draw from a seed, one behind the other. -/
import Derived.Test.YtjbeloljbjfibaaRows
import Derived.Test.YtjbeloljbjfibaaLayer8
import Derived.Test.YtjbeloljbjfibaaConf
import Derived.Test.YtjbeloljbjfibaaBlank
import Derived.Test.YtjbeloljbjfibaaCfgRef
import Derived.Test.YtjbeloljbjfibaaSize
import Derived.Test.YtjbeloljbjfibaaSizes
import Derived.Test.YtjbeloljbjfibaaSteps
import Derived.Test.YtjbeloljbjfibaaClo54
import Derived.Test.YtjbeloljbjfibaaFill
import Derived.Test.YtjbeloljbjfibaaMods
import Derived.Test.YtjbeloljbjfibaaFills
import Derived.Test.YtjbeloljbjfibaaShape
import Derived.Test.YtjbeloljbjfibaaShapes
import Derived.Test.YtjbeloljbjfibaaCheck
import Derived.Test.YtjbeloljbjfibaaChecks
import Derived.Test.YtjbeloljbjfibaaDims
import Derived.Test.YtjbeloljbjfibaaFlat
import Derived.Test.YtjbeloljbjfibaaNumbers
import Derived.Test.YtjbeloljbjfibaaPrefix
import Derived.Test.YtjbeloljbjfibaaBody
import Derived.Test.YtjbeloljbjfibaaDecode
import Derived.WalkKit
import Derived.ProofKit
import Derived.OpenShut
import Derived.Below
import Derived.WalkLawsBesides
import Derived.Deep.QuietTactic
import Derived.BigQuiet
import Derived.Deep.RegionWith
import Derived.Deep.RegionHeld3
import Derived.Deep.OwnRows
import Derived.Deep.Slices
import Derived.Test.YtjbeloljbjfibaaTrips
import Derived.Test.YtjbeloljbjfibaaCuts
namespace Go.Proofs.Ytjbeloljbjfibaa
open Go.ChangeShapes Go.WideShapes Go.ChangeAt Go.RowKit
set_option linter.unusedVariables false

def lcg (s : Int) : Int := IntKind.u64.wrap (IntKind.u64.wrap (s * 6364136223846793005) + 1442695040888963407)
/-- the seed behind k draws -/
def sd (s : Int) : Nat → Int
  | 0 => s
  | k + 1 => lcg (sd s k)
def drawn (s : Int) (j : Nat) : Int := i8 (sd s (j + 1) / 72057594037927936)
def drawnL (s : Int) (n : Nat) : List Int := (List.range n).map (drawn s)

theorem drawnL_length (s : Int) (n : Nat) : (drawnL s n).length = n := by simp [drawnL]
theorem drawnL_at (s : Int) (n j : Nat) (h : j < n) : (drawnL s n).getD j 0 = drawn s j := by simp [drawnL, List.getD, h]
theorem drawnL_wf (s : Int) (n : Nat) : ∀ z ∈ drawnL s n, (Lit.int .i8 z).wf = true := fun z hz => by
  obtain ⟨y, _, rfl⟩ := List.mem_map.1 hz
  exact wf_i8 _

theorem own_cap {w : World} {B : Nat} {e : TypeId} {a : Option Addr} {n c : Nat} {cs : List Value} (ho : w.ownsRow B e 1 (.slice a n c) n cs) : n ≤ c ∧ (a = none → c = 0) := by
  rcases ho.2 with ⟨h, h'⟩ | ⟨g, cap, cur, h, _, _, hn, _⟩
  · simp only [Value.slice.injEq] at h
    exact ⟨by omega, fun _ => h.2.2⟩
  · simp only [Value.slice.injEq] at h
    exact ⟨by omega, fun e => by rw [e] at h; cases h.1⟩

/-- a right configuration has fewer weights than four thousand -/
theorem size_few {d h l v u x t n : Int} (ok : okB d h l v u x t n = true) : szZ d l v u x ≤ 1896 := by
  have r := right_of ok
  obtain ⟨hx, n0, n1⟩ := r.nets
  have d0 := r.d0; have d1 := r.d1; have l0 := r.l0; have l1 := r.l1; have v0 := r.v0; have v1 := r.v1; have u0 := r.u0; have u1 := r.u1; have x0 := r.x0; have x1 := r.x1
  have p1 := mul_bounds (show 0 ≤ v by omega) v1 (show 0 ≤ d by omega) d1
  have p2 := mul_bounds (show 0 ≤ d by omega) d1 (show 0 ≤ d by omega) d1
  have p3 := mul_bounds x0 x1 (show 0 ≤ d by omega) d1
  have p4 := mul_bounds (show 0 ≤ u by omega) u1 (show 0 ≤ d by omega) d1
  obtain ⟨P, eP⟩ : ∃ P, perZ d (d * d) (x * d) (u * d) (netsN x) = P := ⟨_, rfl⟩
  have pb : 0 ≤ P ∧ P ≤ 816 := by
    rw [← eP]
    unfold perZ
    have p5 := mul_bounds (a := (netsN x : Int)) (A := 4) (by omega) (by omega) (show 0 ≤ u * d + u * d by omega) (show u * d + u * d ≤ 128 by omega)
    constructor <;> omega
  have pl' := mul_bounds (show 0 ≤ l by omega) l1 pb.1 pb.2
  unfold szZ
  rw [eP]
  omega

theorem decode_no (s : ByteArray) (hs : s.size ≤ 9223372036854775805) (hd : decOK s = false) (w : World) : Calls Try.prog 22 #[.string s] w fun e w' => ∃ E L N O : SL, e = .returned (.tuple #[.agg #[.int .i64 0, .int .i64 0, .int .i64 0, .int .i64 0, .int .i64 0, .int .i64 0, .int .i64 0, .int .i64 0, .slice E.a E.n E.c, .slice L.a L.n L.c, .slice N.a N.n N.c, .slice O.a O.n O.c], .int .i64 1]) ∧ Below w.heap.size w w' := by
  refine (decode_call s w hs).mono fun e w' hh => ?_
  obtain ⟨E, L, N, O, Y, U, D, h1, _, h2⟩ := hh
  have e1 : ∀ k, decC s k = 0 := fun k => by unfold decC; rw [hd]; rfl
  have e3 : decE s = 1 := by unfold decE; rw [hd]; rfl
  simp only [e1, e3] at h1
  exact ⟨E, L, N, O, h1, h2⟩

/-- a text whose seal is broken is no model's -/
theorem dec_sealed {s : ByteArray} (h : openE s ≠ 0) : decOK s = false := by
  unfold decOK
  rw [show txtOK s = false from decide_eq_false fun k => h k.2.1]
  rfl

def setT (s : ByteArray) (p : Nat) (v : Int) : ByteArray := bytesOf ((bytesL s).set p v)

theorem setT_size (s : ByteArray) (p : Nat) (v : Int) : (setT s p v).size = s.size := by
  unfold setT
  rw [bytesOf_size, List.length_set, bytesL_length]
theorem setT_other (s : ByteArray) (p : Nat) (v : Int) (i : Nat) (hi : i ≠ p) : byteZ s i = byteZ (setT s p v) i := by
  by_cases h : i < s.size
  · have e : ((bytesL s).set p v).getD i 0 = byteZ s i := by
      rw [← bytesL_at s i h]
      simp [List.getD, List.getElem?_set_ne (Ne.symm hi)]
    have lt := byteZ_lt s i
    have := byteZ_of ((bytesL s).set p v) i (by rw [List.length_set, bytesL_length]; exact h) (by rw [e]; omega) (by rw [e]; omega)
    rw [e] at this
    unfold setT
    omega
  · have hz : ∀ (v : ByteArray) i, v.size ≤ i → byteZ v i = 0 := fun v i hi => by unfold byteZ; rw [dif_neg (by omega)]
    rw [hz _ _ (by omega), hz _ _ (by rw [setT_size]; omega)]
theorem setT_same (s : ByteArray) (p : Nat) (v : Int) (hp : p < s.size) (h0 : 0 ≤ v) (h1 : v ≤ 255) : (byteZ (setT s p v) p : Int) = v := by
  have e : ((bytesL s).set p v).getD p 0 = v := by simp [List.getD, bytesL_length, hp]
  have := byteZ_of ((bytesL s).set p v) p (by rw [List.length_set, bytesL_length]; exact hp) (by rw [e]; exact h0) (by rw [e]; omega)
  rw [e] at this
  exact this

theorem bytes_key (T : ByteArray) (n p : Nat) (hT : T.size = n) (hn : n ≤ 9223372036854775807) (hp : p < n) (v : Int) (hv : (Lit.int .u8 v).wf = true) (W : World) : ∃ c W', (convert 9 49 (.string T)).run Try.prog W = .ok (.slice (some ⟨W.heap.size, 0, none⟩) n c) W' ∧
    W'.cell? ⟨W.heap.size, p, none⟩ = some (.int .u8 (byteZ T p : Int)) ∧ W'.frozen? ⟨W.heap.size, p, none⟩ = false ∧ Below W.heap.size W (W'.setCell ⟨W.heap.size, p, none⟩ (.int .u8 v)) ∧
    (convert 49 9 (.slice (some ⟨W.heap.size, 0, none⟩) n c)).run Try.prog (W'.setCell ⟨W.heap.size, p, none⟩ (.int .u8 v)) = .ok (.string (setT T p v)) (W'.setCell ⟨W.heap.size, p, none⟩ (.int .u8 v)) ∧ Below W.heap.size W W' := by
  subst hT
  obtain ⟨c, W', ec, hc, hb, rd, fz⟩ := bytes_of T hn W
  refine ⟨c, W', ec, ?_, fz p hp, hb.setCell (Nat.le_refl _) _, conv_row c (reads_set rd hp hv), hb⟩
  have := rd.cell _ rfl p hp
  rw [bytesL_at T p hp] at this
  have e : (⟨W.heap.size, 0, none⟩ : Addr).add p = ⟨W.heap.size, p, none⟩ := by by_cases h : p = 0 <;> simp [Addr.add, h]
  rwa [e] at this

end Go.Proofs.Ytjbeloljbjfibaa
