/- The program's Take, Reserve and Unreserve: their contracts. -/
import Derived.Test.YtfggkkhehaafcaaRows
import Derived.Test.YtfggkkhehaafcaaPages
import Derived.Test.YtfggkkhehaafcaaView
import Derived.Test.YtfggkkhehaafcaaOwn
import Derived.Test.YtfggkkhehaafcaaReadsP
import Derived.Test.YtfggkkhehaafcaaReadsQ
import Derived.Test.YtfggkkhehaafcaaLeast
import Derived.WalkKit
import Derived.ProofKit
import Derived.OpenShut
import Derived.Below
import Derived.WalkLawsBesides
import Derived.Deep.QuietTactic
import Derived.BigQuiet
namespace Go.Proofs.Ytfggkkhehaafcaa
open Go.ChangeShapes Go.WideShapes Go.ChangeAt Go.RowKit
set_option linter.unusedVariables false

def takeE (s : Pl) (t : ByteArray) (k : Int) : Int := if t.toList = [] ∨ k < 0 then 20 else if (freeTo s.pg s.n : Int) - s.aside < k then 6 else 0
def takeS (s : Pl) (t : ByteArray) (k : Int) : Pl := if takeE s t k = 0 then { s with pg := takeP s.pg t k.toNat s.n } else s
def takeR (s : Pl) (t : ByteArray) (k : Int) : List Int := if takeE s t k = 0 then tk s.pg k.toNat s.n else []
def drawE (s : Pl) (t : ByteArray) (k : Int) : Int := if t.toList = [] ∨ k < 0 then 20 else if s.aside < k then 6 else 0
def drawS (s : Pl) (t : ByteArray) (k : Int) : Pl := if drawE s t k = 0 then { s with pg := takeP s.pg t k.toNat s.n, aside := s.aside - k } else s
def drawR (s : Pl) (t : ByteArray) (k : Int) : List Int := if drawE s t k = 0 then tk s.pg k.toNat s.n else []
def resE (s : Pl) (k : Int) : Int := if k < 0 then 20 else if (freeTo s.pg s.n : Int) - s.aside < k then 6 else 0
def resS (s : Pl) (k : Int) : Pl := if resE s k = 0 then { s with aside := s.aside + k } else s
def unE (s : Pl) (k : Int) : Int := if k < 0 ∨ s.aside < k then 20 else 0
def unS (s : Pl) (k : Int) : Pl := if unE s k = 0 then { s with aside := s.aside - k } else s
def shE (s : Pl) (z : Int) : Int := if usedB s z = true then 0 else 25
def shS (s : Pl) (z : Int) : Pl := if usedB s z = true then { s with pg := upd s.pg z.toNat { s.pg z.toNat with ow := (s.pg z.toNat).ow + 1 } } else s
def dropPg (q : Pg) : Pg := if q.ow - 1 = 0 then ⟨⟨#[]⟩, 0, q.cell⟩ else { q with ow := q.ow - 1 }
def drS (s : Pl) (z : Int) : Pl := if usedB s z = true then { s with pg := upd s.pg z.toNat (dropPg (s.pg z.toNat)) } else s
def putS (s : Pl) (z c v : Int) : Pl := if getE s z c = 0 then { s with pg := upd s.pg z.toNat { s.pg z.toNat with cell := upd (s.pg z.toNat).cell c.toNat v } } else s

/-- a pool that is as it should be, no page with more than m owners -/
structure Good (m : Nat) (s : Pl) : Prop where
  n0 : 1 ≤ s.n
  n1 : s.n ≤ 256
  a0 : 0 ≤ s.aside
  a1 : s.aside ≤ freeTo s.pg s.n
  ow0 : ∀ i, i < s.n → 0 ≤ (s.pg i).ow
  ow1 : ∀ i, i < s.n → (s.pg i).ow ≤ m
  tag : ∀ i, i < s.n → ((s.pg i).tag.toList = [] ↔ (s.pg i).ow = 0)

theorem Good.few {m : Nat} {s : Pl} (h : Good m s) : s.aside ≤ 256 := by have := h.a1; have := freeTo_le s.pg s.n; have := h.n1; omega

theorem Off.of_drawn {B m : Nat} {T : TypeId → Bool} {w W w' : World} (o : Off B T W w') (h : W = w.drewN m) : Off B T w w' := by
  subst h
  exact ⟨o.os, o.tape, o.output, o.size, o.block⟩

theorem empty_true {t : ByteArray} (h : t.toList = []) : t.toList.isEmpty = true := by simp [h]
theorem empty_false {t : ByteArray} (h : ¬ t.toList = []) : t.toList.isEmpty = false := by simp [h]

theorem take_call {B m : Nat} {w : World} {b g : Nat} {s : Pl} (h : PoolAt B w b g s) (hG : Good m s) (t : ByteArray) (k : Int) :
    Calls Try.prog 34 #[.pointer (some ⟨b, 0, none⟩), .string t, .int .i64 k] w fun e w' =>
      ∃ a l c, e = .returned (.tuple #[.slice a l c, .int .i64 (takeE s t k)]) ∧ RowI w.heap.size w' a l c (takeR s t k) ∧ PoolAt B w' b g (takeS s t k) ∧ Off B TP w w' := by
  unfold takeR takeS
  by_cases ht : t.toList = []
  · have e : takeE s t k = 20 := by simp [takeE, ht]
    simp only [e]
    rw [if_neg (by decide), if_neg (by decide)]
    have q := empty_true ht
    have HP := hidden_ h
    clear ht e h hG
    go_enter Try.func34, Try.ntmps34
    go_wp2
    go_ret2
    exact ⟨_, _, _, rfl, RowI.nil _ _, HP.out, Off.refl _ _ _⟩
  · have q := empty_false ht
    by_cases h0 : k < 0
    · have e : takeE s t k = 20 := by simp [takeE, h0]
      simp only [e]
      rw [if_neg (by decide), if_neg (by decide)]
      have HP := hidden_ h
      clear ht e h hG
      go_enter Try.func34, Try.ntmps34
      go_wp2
      go_ret2
      exact ⟨_, _, _, rfl, RowI.nil _ _, HP.out, Off.refl _ _ _⟩
    · have k39 := atHand_call h hG.n1 hG.a0 hG.few
      have fl := freeTo_le s.pg s.n
      have n1 := hG.n1
      have a0 := hG.a0
      by_cases h1 : (freeTo s.pg s.n : Int) - s.aside < k
      · have e : takeE s t k = 6 := by simp [takeE, ht, h0, h1]
        simp only [e]
        rw [if_neg (by decide), if_neg (by decide)]
        obtain ⟨F, eF⟩ : ∃ F, (freeTo s.pg s.n : Int) - s.aside = F := ⟨_, rfl⟩
        rw [eF] at k39 h1
        have HP := hidden_ h
        clear ht e h hG eF a0 n1 fl
        go_enter Try.func34, Try.ntmps34
        go_wp2_with (first | (go_at_call 65; refine k39.mono ?_; rintro e W1 ⟨rfl, m', h1⟩; have HW := hidden_ h1; clear h1))
        go_ret2
        exact ⟨_, _, _, rfl, RowI.nil _ _, by rw [HW.out]; exact HP.out.drewN m', by rw [HW.out]; exact (Off.refl _ _ _).drewN m'⟩
      · have e : takeE s t k = 0 := by simp [takeE, ht, h0, h1]
        simp only [e]
        rw [if_pos trivial, if_pos trivial]
        obtain ⟨K, rfl⟩ : ∃ K : Nat, k = (K : Int) := ⟨k.toNat, by omega⟩
        have k40 := fun m' => takeLeast_call (h.drewN m') n1 t K (by omega)
        rw [Int.toNat_natCast]
        obtain ⟨F, eF⟩ : ∃ F, (freeTo s.pg s.n : Int) - s.aside = F := ⟨_, rfl⟩
        rw [eF] at k39 h1
        obtain ⟨R, eR⟩ : ∃ R, tk s.pg K s.n = R := ⟨_, rfl⟩
        rw [eR] at k40 ⊢
        obtain ⟨L, eL⟩ : ∃ L, R.length = L := ⟨_, rfl⟩
        rw [eL] at k40
        clear ht e h hG eF a0 n1 fl eR eL
        go_enter Try.func34, Try.ntmps34
        go_wp2_with (first
          | (go_at_call 65; refine k39.mono ?_; rintro e W1 ⟨rfl, m', h1⟩; have k40' := k40 m'; rw [← h1] at k40'; have HW := hidden_ h1; clear h1 k40)
          | (go_at_call 66; refine k40'.mono ?_; rintro e W2 ⟨⟨a, c, rfl, hr⟩, hp, ho⟩))
        go_ret2
        exact ⟨_, _, _, rfl, by rw [HW.out] at hr; exact hr, hp, Off.of_drawn ho HW.out⟩

end Go.Proofs.Ytfggkkhehaafcaa
