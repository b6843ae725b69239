/- The document's Check of any model. -/
import Derived.Test.YtjbeloljbjfibaaRows
import Derived.Test.YtjbeloljbjfibaaLayer8
import Derived.Test.YtjbeloljbjfibaaConf
import Derived.Test.YtjbeloljbjfibaaBlank
import Derived.Test.YtjbeloljbjfibaaCfgRef
import Derived.Test.YtjbeloljbjfibaaSize
import Derived.Test.YtjbeloljbjfibaaSizes
import Derived.Test.YtjbeloljbjfibaaSteps
import Derived.Test.YtjbeloljbjfibaaClo54
import Derived.Test.YtjbeloljbjfibaaFill
import Derived.Test.YtjbeloljbjfibaaMods
import Derived.Test.YtjbeloljbjfibaaFills
import Derived.Test.YtjbeloljbjfibaaShape
import Derived.Test.YtjbeloljbjfibaaShapes
import Derived.Test.YtjbeloljbjfibaaCheck
import Derived.Test.YtjbeloljbjfibaaChecks
import Derived.Test.YtjbeloljbjfibaaDims
import Derived.Test.YtjbeloljbjfibaaFlat
import Derived.Test.YtjbeloljbjfibaaNumbers
import Derived.Test.YtjbeloljbjfibaaPrefix
import Derived.Test.YtjbeloljbjfibaaBody
import Derived.Test.YtjbeloljbjfibaaDecode
import Derived.WalkKit
import Derived.ProofKit
import Derived.OpenShut
import Derived.Below
import Derived.WalkLawsBesides
import Derived.Deep.QuietTactic
import Derived.BigQuiet
import Derived.Deep.RegionWith
import Derived.Deep.RegionHeld3
import Derived.Deep.OwnRows
import Derived.Deep.Slices
import Derived.Test.YtjbeloljbjfibaaTrips
import Derived.Test.YtjbeloljbjfibaaInv
import Derived.Test.YtjbeloljbjfibaaBuild
import Derived.Test.YtjbeloljbjfibaaTypedC
import Derived.Test.YtjbeloljbjfibaaEqWorks
import Derived.Test.YtjbeloljbjfibaaCuts
import Derived.Test.YtjbeloljbjfibaaSameLM
import Derived.Test.YtjbeloljbjfibaaOwns
import Derived.Test.YtjbeloljbjfibaaJoin
namespace Go.Proofs.Ytjbeloljbjfibaa
open Go.ChangeShapes Go.WideShapes Go.ChangeAt Go.RowKit
set_option linter.unusedVariables false

/-- the head's four tests, a layer's nine, a net's two -/
def P0 (l : Nat) (D VD : Nat) (m : ModV) : Prop := m.ln = l ∧ m.e.length = VD ∧ m.nm.length = D ∧ m.o.length = VD
def Ly (D DD XD ne : Nat) (m : ModV) (i : Nat) : Prop := (∀ r, r < 7 → (m.f i r).length = preC D DD XD r) ∧ m.un i = ne ∧ m.dn i = ne
def Nt (UD : Nat) (m : ModV) (i j : Nat) : Prop := (m.u i j).length = UD ∧ (m.d i j).length = UD
def AllR (l D DD XD UD VD ne : Nat) (m : ModV) : Prop := P0 l D VD m ∧ ∀ i, i < m.ln → Ly D DD XD ne m i ∧ ∀ j, j < ne → Nt UD m i j

theorem chk_iff {d h l v u x t n : Int} (ok : okB d h l v u x t n = true) (m : ModV) : (AllR l.toNat d.toNat (d * d).toNat (x * d).toNat (u * d).toNat (v * d).toNat (netsN x) m → checkB d h l v u x t n m = 0) ∧ (¬ AllR l.toNat d.toNat (d * d).toNat (x * d).toNat (u * d).toNat (v * d).toNat (netsN x) m → checkB d h l v u x t n m = 21) := by
  have dm := dims_of ok
  have to0 : AllR l.toNat d.toNat (d * d).toNat (x * d).toNat (u * d).toNat (v * d).toNat (netsN x) m → checkB d h l v u x t n m = 0 := fun ⟨⟨h1, h2, h3, h4⟩, hall⟩ => by
    have fr : framedB l x m = true := decide_eq_true ⟨by rw [h1]; exact dm.el.symm, fun i hi => by
      obtain ⟨⟨_, u1, u2⟩, _⟩ := hall i hi
      rw [u1, u2]
      exact ⟨dm.en.symm, dm.en.symm⟩⟩
    unfold checkB
    rw [ok, fr]
    show lensZ _ _ _ = 0
    refine lens_ok _ _ _ fun k hk => ?_
    unfold allT at hk
    unfold cntOf
    rcases plan_cases l.toNat (netsN x) k hk with rfl | ⟨i, r, hi, hr, rfl⟩ | ⟨i, j, hi, hj, rfl | rfl⟩ | rfl | rfl
    · exact h2
    · rw [planC_list i r hi hr, seqOf_list m _ i r (by omega) hr]
      exact (hall i (by omega)).1.1 r hr
    · rw [planC_up i j hi hj, seqOf_up m _ i j (by omega) hj]
      exact ((hall i (by omega)).2 j hj).1
    · rw [planC_down i j hi hj, seqOf_down m _ i j (by omega) hj]
      exact ((hall i (by omega)).2 j hj).2
    · rw [planC_norm]
      rw [← h1, seqOf_norm]
      exact h3
    · rw [planC_out]
      rw [← h1, seqOf_out]
      exact h4
  refine ⟨to0, fun hn => ?_⟩
  have z21 : ∀ (S : Nat → List Int) (cnt : Nat → Nat) T, lensZ S cnt T = 0 ∨ lensZ S cnt T = 21 := fun S cnt T => by
    induction T with
    | zero => exact .inl rfl
    | succ T ih =>
      show (if _ then _ else _) = _ ∨ (if _ then _ else _) = _
      split
      · exact ih
      · exact .inr rfl
  have c : checkB d h l v u x t n m = 0 ∨ checkB d h l v u x t n m = 21 := by
    unfold checkB
    rw [ok]
    show (if framedB l x m = true then _ else _) = _ ∨ (if framedB l x m = true then _ else _) = _
    split
    · exact z21 _ _ _
    · exact .inr rfl
  rcases c with c | c
  · exfalso
    apply hn
    obtain ⟨_, hln, hun, hlen⟩ := checked c
    unfold cntOf allT at hlen
    have ip : ∀ i r, i < l.toNat → r < pl (netsN x) → 1 + i * pl (netsN x) + r < 1 + l.toNat * pl (netsN x) + 2 := fun i r hi hr => by
      have : (i + 1) * pl (netsN x) ≤ l.toNat * pl (netsN x) := Nat.mul_le_mul_right _ (by omega)
      rw [Nat.add_mul] at this
      omega
    refine ⟨⟨hln, hlen 0 (by omega), ?_, ?_⟩, fun i hi => ⟨⟨fun r hr => ?_, hun i hi⟩, fun j hj => ⟨?_, ?_⟩⟩⟩
    · have := hlen (1 + l.toNat * pl (netsN x)) (by omega)
      rwa [planC_norm, ← hln, seqOf_norm] at this
    · have := hlen (1 + l.toNat * pl (netsN x) + 1) (by omega)
      rwa [planC_out, ← hln, seqOf_out] at this
    · have := hlen _ (ip i r (by omega) (by unfold pl; omega))
      rwa [planC_list i r (by omega) hr, seqOf_list m _ i r hi hr] at this
    · have q := ip i (7 + 2 * j) (by omega) (by unfold pl; omega)
      have := hlen (1 + i * pl (netsN x) + 7 + 2 * j) (by omega)
      rwa [planC_up i j (by omega) hj, seqOf_up m _ i j hi hj] at this
    · have q := ip i (7 + 2 * j + 1) (by omega) (by unfold pl; omega)
      have := hlen (1 + i * pl (netsN x) + 7 + 2 * j + 1) (by omega)
      rwa [planC_down i j (by omega) hj, seqOf_down m _ i j hi hj] at this
  · exact c

set_option maxRecDepth 20000 in
theorem refCheck_no (d h l v u x t n : Int) (E L N O : SL) (ok : okB d h l v u x t n = false) (w : World) :
    Calls Try.prog 17 #[.agg #[.int .i64 d, .int .i64 h, .int .i64 l, .int .i64 v, .int .i64 u, .int .i64 x, .int .i64 t, .int .i64 n, .slice E.a E.n E.c, .slice L.a L.n L.c, .slice N.a N.n N.c, .slice O.a O.n O.c]] w fun e w' => e = .returned (.int .i64 20) ∧ Below w.heap.size w w' := by
  have k10 := refConfig_call d h l v u x t n
  simp only [ok] at k10
  clear ok
  have hb := below_new (below_new (Below.refl w.heap.size w) (.cells #[.int .i64 d, .int .i64 h, .int .i64 l, .int .i64 v, .int .i64 u, .int .i64 x, .int .i64 t, .int .i64 n, .slice E.a E.n E.c, .slice L.a L.n L.c, .slice N.a N.n N.c, .slice O.a O.n O.c] 29)) (.cells #[.int .i64 d, .int .i64 h, .int .i64 l, .int .i64 v, .int .i64 u, .int .i64 x, .int .i64 t, .int .i64 n] 23)
  have qb := Blk.new 29 w #[.int .i64 d, .int .i64 h, .int .i64 l, .int .i64 v, .int .i64 u, .int .i64 x, .int .i64 t, .int .i64 n, .slice E.a E.n E.c, .slice L.a L.n L.c, .slice N.a N.n N.c, .slice O.a O.n O.c]
  obtain ⟨a0, a1, a2, a3, a4, a5, a6, a7, a8, a9, a10, a11⟩ := qb.c12
  go_enter Try.func17, Try.ntmps17
  go_wp2_with (first
    | (go_at_call 10; refine (k10 _).mono ?_; rintro e W1 ⟨rfl, h1⟩; replace hb := below_then hb h1; clear h1))
  go_ret
  exact ⟨rfl, hb⟩

end Go.Proofs.Ytjbeloljbjfibaa
