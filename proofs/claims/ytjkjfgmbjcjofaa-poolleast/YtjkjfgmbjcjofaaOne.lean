/- A pool of one page: what each act makes of it. -/
import Derived.Test.YtjkjfgmbjcjofaaRows
import Derived.Test.YtjkjfgmbjcjofaaPages
import Derived.Test.YtjkjfgmbjcjofaaView
import Derived.Test.YtjkjfgmbjcjofaaOwn
import Derived.Test.YtjkjfgmbjcjofaaReadsP
import Derived.Test.YtjkjfgmbjcjofaaReadsQ
import Derived.Test.YtjkjfgmbjcjofaaLeast
import Derived.Test.YtjkjfgmbjcjofaaLays
import Derived.Test.YtjkjfgmbjcjofaaTurns
import Derived.Test.YtjkjfgmbjcjofaaNews
import Derived.Test.YtjkjfgmbjcjofaaGoods
import Derived.Test.YtjkjfgmbjcjofaaWorks11
import Derived.WalkKit
import Derived.ProofKit
import Derived.OpenShut
import Derived.Below
import Derived.WalkLawsBesides
import Derived.Deep.QuietTactic
import Derived.BigQuiet
namespace Go.Proofs.Ytjkjfgmbjcjofaa
open Go.ChangeShapes Go.WideShapes Go.ChangeAt Go.RowKit
set_option linter.unusedVariables false

theorem restN (x : Int) (n : Nat) (hn : 0 < n) : ∃ M : Nat, M < n ∧ (IntKind.u64.wrap x).tmod (n : Int) = (M : Int) ∧ IntKind.u64.wrap x % (n : Int) = (M : Int) := by
  have b : 0 ≤ IntKind.u64.wrap x := by rw [IntKind.wrap_u64]; omega
  generalize IntKind.u64.wrap x = U at *
  have h0 := Int.emod_nonneg U (show (n : Int) ≠ 0 by omega)
  have h1 := Int.emod_lt_of_pos U (show 0 < (n : Int) by omega)
  refine ⟨(U % (n : Int)).toNat, by omega, ?_, by omega⟩
  rw [Int.tmod_eq_emod_of_nonneg b]
  omega

/-- the one page, with so many owners and these cells -/
def oneP (q : Pg) : Pl := ⟨1, upd (newPl 1).pg 0 q, 0⟩

theorem one_n (q : Pg) : (oneP q).n ≤ 256 := (by decide : (1 : Nat) ≤ 256)
theorem oneP_at (q : Pg) : (oneP q).pg 0 = q := rfl
theorem one_used (q : Pg) (h : q.ow ≠ 0) : usedB (oneP q) 0 = true := by
  have e : ((oneP q).pg (0 : Int).toNat).ow ≠ 0 := h
  simp only [usedB, decide_eq_true_eq]
  exact ⟨Int.le_refl _, (by decide : (0 : Int) < ((1 : Nat) : Int)), e⟩
theorem one_free (q : Pg) (h : q.ow = 0) : usedB (oneP q) 0 = false := by
  have e : ((oneP q).pg (0 : Int).toNat).ow = 0 := h
  simp only [usedB, decide_eq_false_iff_not]
  exact fun x => x.2.2 e
theorem one_take (t : ByteArray) (ht : ¬ t.toList = []) (q : Pg) (h : q.ow = 0) : takeE (oneP q) t 1 = 0 ∧ takeS (oneP q) t 1 = oneP (newPg t) ∧ takeR (oneP q) t 1 = [0] := by
  have e0 : ((oneP q).pg 0).ow = 0 := h
  have e : takeE (oneP q) t 1 = 0 := by
    unfold takeE
    rw [if_neg (fun x => x.elim ht (by decide)), if_neg (by show ¬ ((freeTo (oneP q).pg 1 : Int) - 0 < 1); simp [freeTo, e0])]
  refine ⟨e, ?_, ?_⟩
  · unfold takeS
    rw [if_pos e]
    show (⟨1, takeP (oneP q).pg t 1 1, 0⟩ : Pl) = ⟨1, upd (newPl 1).pg 0 (newPg t), 0⟩
    rw [takeP_yes (oneP q).pg t 1 0 e0 (by show (0 : Nat) < 1; decide), takeP_zero]
    show (⟨1, upd (upd (newPl 1).pg 0 q) 0 (newPg t), 0⟩ : Pl) = _
    rw [upd_upd]
  · unfold takeR
    rw [if_pos e]
    show tk (oneP q).pg 1 1 = [0]
    rw [tk_yes (oneP q).pg 1 0 e0 (by show (0 : Nat) < 1; decide)]
    rfl
theorem onePl_new : newPl 1 = oneP ⟨⟨#[]⟩, 0, fun _ => 0⟩ := by
  show (⟨1, (newPl 1).pg, 0⟩ : Pl) = ⟨1, upd (newPl 1).pg 0 _, 0⟩
  congr 1
  funext j
  simp only [upd]
  split <;> rfl
theorem one_share (q : Pg) (h : q.ow ≠ 0) : shE (oneP q) 0 = 0 ∧ shS (oneP q) 0 = oneP { q with ow := q.ow + 1 } := by
  refine ⟨by unfold shE; rw [if_pos (one_used q h)], ?_⟩
  unfold shS
  rw [if_pos (one_used q h)]
  show (⟨1, upd (upd (newPl 1).pg 0 q) 0 { q with ow := q.ow + 1 }, 0⟩ : Pl) = _
  rw [upd_upd]
  rfl
theorem one_drop (q : Pg) (h : q.ow ≠ 0) : shE (oneP q) 0 = 0 ∧ drS (oneP q) 0 = oneP (dropPg q) := by
  refine ⟨by unfold shE; rw [if_pos (one_used q h)], ?_⟩
  unfold drS
  rw [if_pos (one_used q h)]
  show (⟨1, upd (upd (newPl 1).pg 0 q) 0 (dropPg q), 0⟩ : Pl) = _
  rw [upd_upd]
  rfl
theorem one_put (q : Pg) (h : q.ow ≠ 0) (c : Nat) (hc : c < 32) (v : Int) : getE (oneP q) 0 c = 0 ∧ putS (oneP q) 0 c v = oneP { q with cell := upd q.cell c v } := by
  have e : getE (oneP q) 0 c = 0 := by
    unfold getE
    rw [if_pos (one_used q h), if_pos (by omega)]
  refine ⟨e, ?_⟩
  unfold putS
  rw [if_pos e]
  show (⟨1, upd (upd (newPl 1).pg 0 q) 0 { q with cell := upd q.cell (c : Int).toNat v }, 0⟩ : Pl) = _
  rw [upd_upd, Int.toNat_natCast]
  rfl
theorem one_get (q : Pg) (h : q.ow ≠ 0) (c : Nat) (hc : c < 32) : getE (oneP q) 0 c = 0 ∧ getV (oneP q) 0 c = q.cell c := by
  have e := (one_put q h c hc 0).1
  refine ⟨e, ?_⟩
  unfold getV
  rw [if_pos e]
  rfl
theorem one_get_no (q : Pg) (h : q.ow = 0) (c : Int) : getE (oneP q) 0 c = 25 ∧ getV (oneP q) 0 c = 0 := by
  have e : getE (oneP q) 0 c = 25 := by
    unfold getE
    rw [if_neg (by rw [one_free q h]; decide)]
  refine ⟨e, ?_⟩
  unfold getV
  rw [if_neg (by rw [e]; decide)]
theorem one_ow (q : Pg) (h : q.ow ≠ 0) : owZ (oneP q) 0 = q.ow ∧ tagZ (oneP q) 0 = q.tag := by
  unfold owZ tagZ
  rw [if_pos (one_used q h), if_pos (one_used q h)]
  exact ⟨rfl, rfl⟩
theorem one_good (q : Pg) (m : Nat) (h0 : 0 ≤ q.ow) (h1 : q.ow ≤ m) (ht : q.tag.toList = [] ↔ q.ow = 0) : Good m (oneP q) := by
  have e : ∀ i, i < (oneP q).n → (oneP q).pg i = q := fun i hi => by
    have : i < 1 := hi
    obtain rfl : i = 0 := by omega
    rfl
  refine ⟨Nat.le_refl _, (by decide : (1 : Nat) ≤ 256), Int.le_refl _, Int.natCast_nonneg _, fun i hi => ?_, fun i hi => ?_, fun i hi => ?_⟩ <;> rw [e i hi]
  · exact h0
  · exact h1
  · exact ht

/-- a page of the tag a with the number v in cell c -/
def pgA (o : Int) (c : Nat) (v : Int) : Pg := ⟨tA, o, upd (fun _ => 0) c v⟩
theorem goodA (o : Int) (c : Nat) (v : Int) (h0 : 1 ≤ o) (h1 : o ≤ 100) : Good 100 (oneP (pgA o c v)) := one_good _ 100 (by show 0 ≤ o; omega) h1 (by show tA.toList = [] ↔ o = 0; simp [tA_ne]; omega)
theorem dropA (o : Int) (c : Nat) (v : Int) (h : 2 ≤ o) : dropPg (pgA o c v) = pgA (o - 1) c v := by
  unfold dropPg
  rw [if_neg (by show ¬ o - 1 = 0; omega)]
  rfl
theorem drop1 (c : Nat) (v : Int) : dropPg (pgA 1 c v) = ⟨⟨#[]⟩, 0, upd (fun _ => 0) c v⟩ := by
  unfold dropPg
  rw [if_pos (show (pgA 1 c v).ow - 1 = 0 from (by decide : (1 : Int) - 1 = 0))]
  rfl

end Go.Proofs.Ytjkjfgmbjcjofaa
