/- The document's readers: where an id stands, how much waits. -/
import Derived.Test.YtkjmlbllpnehlaaRows
import Derived.Test.YtkjmlbllpnehlaaView
import Derived.Test.YtkjmlbllpnehlaaOwn
import Derived.Test.YtkjmlbllpnehlaaBase
import Derived.Test.YtkjmlbllpnehlaaFkZ
import Derived.Test.YtkjmlbllpnehlaaFkBy
import Derived.Test.YtkjmlbllpnehlaaFkAt
import Derived.Test.YtkjmlbllpnehlaaFkRd
import Derived.Test.YtkjmlbllpnehlaaRfAt
import Derived.WalkKit
import Derived.ProofKit
import Derived.OpenShut
import Derived.Below
import Derived.WalkLawsBesides
import Derived.Deep.QuietTactic
import Derived.BigQuiet
import Derived.Maps.AppendAt
import Derived.OwnWalk
namespace Go.Proofs.Ytkjmlbllpnehlaa
set_option maxRecDepth 20000
open Go.ChangeShapes Go.WideShapes Go.ChangeAt Go.RowKit
set_option linter.unusedVariables false
set_option linter.unusedSimpArgs false

def cntTo (L : List It) (z : Int) (k : Nat) : Nat := ((L.take k).filter fun x => decide ((x.t : Int) = z)).length
theorem cnt_le (L : List It) (z : Int) (k : Nat) : cntTo L z k ≤ k := Nat.le_trans (List.length_filter_le _ _) (by rw [List.length_take]; omega)
theorem cnt_succ (L : List It) (z : Int) (k : Nat) (hk : k < L.length) : cntTo L z (k + 1) = cntTo L z k + if (L[k].t : Int) = z then 1 else 0 := by
  unfold cntTo
  rw [← List.take_append_getElem hk, List.filter_append, List.length_append]
  congr 1
  by_cases e : (L[k].t : Int) = z <;> simp [e]
theorem cnt_all {k : Nat} {s : Fr} (h : FrOk k s) (z : Int) : cntTo s.L z s.L.length = waitZ s z := by
  unfold cntTo waitZ
  rw [List.take_length]
  by_cases hb : numB s z = true
  · obtain ⟨z0, z1, z2, z3⟩ := num_nat hb
    rw [if_pos hb]
    unfold rowOf
    congr 1
    refine List.filter_congr fun x hx => ?_
    by_cases e : x.t = z.toNat
    · simp [e, z3]
    · have : ¬ (x.t : Int) = z := by omega
      simp [e, this]
  · rw [if_neg hb]
    rw [List.length_eq_zero_iff, List.filter_eq_nil_iff]
    intro x hx
    have := (h.it x hx).1
    simp only [decide_eq_true_eq]
    intro e
    exact hb (by unfold numB; simp; omega)
theorem rat_call {B : Nat} {w : World} {f : Nat} {p : Rp} {s : Fr} (h : RfAt B w f p s) (id : Int) : Calls Try.prog 26 #[.pointer (some ⟨f, 0, none⟩), .int .i64 id] w fun e w' => e = .returned (.int .i64 (plZ s.L id)) ∧ w' = w := by
  have hlen := h.len
  have t2 := h.t2
  have HH := hidden_ h
  obtain ⟨n, en⟩ : ∃ n, s.L.length = n := ⟨_, rfl⟩
  rw [en] at t2 hlen
  have EN := hidden_ en
  obtain ⟨⟨a, c⟩, ea⟩ : ∃ q, p.L = q := ⟨_, rfl⟩
  rw [ea] at t2
  have EA := hidden_ ea
  dsimp only at t2
  cases hb : hasB s.L id with
  | false =>
    rw [pl_no hb]
    have HN := hidden_ (pl_not hb)
    clear h en ea hb
    go_enter Try.func26, Try.ntmps26
    go_wp2
    go_loopw [5] (fun i wr => ∃ k : Nat, k ≤ n ∧ i = .int .i64 k ∧ wr = w) (fun i _ => n - (intOf i).toNat)
    case atStart => exact ⟨0, Nat.zero_le _, rfl, rfl⟩
    case round =>
      obtain ⟨k, hk, rfl, rfl⟩ := hrel
      by_cases hlt : k < n
      · have hlt' : k < s.L.length := by rw [EN.out]; exact hlt
        obtain ⟨y, e1, -, c1, -⟩ := HH.out.cells hlt'
        rw [EA.out] at e1
        dsimp only at e1
        have hne := HN.out k hlt'
        obtain ⟨X, eX⟩ : ∃ X, s.L[k].id = X := ⟨_, rfl⟩
        rw [eX] at c1 hne
        obtain ⟨Z, eZ⟩ : ∃ Z : Addr, Z = ⟨y, 0, none⟩ := ⟨_, rfl⟩
        obtain ⟨P, eP⟩ : ∃ P, Z.add (k * 3) = P := ⟨_, rfl⟩
        have e' : P = ⟨y, k * 3, none⟩ := by rw [← eP, eZ, add_zero_at]
        have c1' : wr.cell? ⟨P.block, P.off + 1, none⟩ = some (.int .i64 X) := by rw [e']; exact c1
        rw [← eZ] at e1
        subst e1
        have q : (X == id) = false := by simpa using hne
        clear c1 eX e' eZ
        go_wp2
        go_roundw
        case rel => exact ⟨k + 1, by omega, by go_num, trivial⟩
        case measure => simp [intOf]; omega
      · have e : k = n := by omega
        subst e
        go_wp2
        go_ret
        exact ⟨rfl, rfl⟩
  | true =>
    obtain ⟨K, hK, hpl, hid, hne⟩ := pl_yes hb
    rw [hpl]
    have hK2 : K < n := by rw [← en]; exact hK
    have HN := hidden_ hne
    have HE := hidden_ hid
    clear h en ea hb hpl hid hne
    go_enter Try.func26, Try.ntmps26
    go_wp2
    go_loopw [5] (fun i wr => ∃ k : Nat, k ≤ K ∧ i = .int .i64 k ∧ wr = w) (fun i _ => n - (intOf i).toNat)
    case atStart => exact ⟨0, Nat.zero_le _, rfl, rfl⟩
    case round =>
      obtain ⟨k, hk, rfl, rfl⟩ := hrel
      have hlt : k < n := by omega
      have hlt' : k < s.L.length := by rw [EN.out]; exact hlt
      obtain ⟨y, e1, -, c1, -⟩ := HH.out.cells hlt'
      rw [EA.out] at e1
      dsimp only at e1
      obtain ⟨X, eX⟩ : ∃ X, s.L[k].id = X := ⟨_, rfl⟩
      rw [eX] at c1
      obtain ⟨Z, eZ⟩ : ∃ Z : Addr, Z = ⟨y, 0, none⟩ := ⟨_, rfl⟩
      obtain ⟨P, eP⟩ : ∃ P, Z.add (k * 3) = P := ⟨_, rfl⟩
      have e' : P = ⟨y, k * 3, none⟩ := by rw [← eP, eZ, add_zero_at]
      have c1' : wr.cell? ⟨P.block, P.off + 1, none⟩ = some (.int .i64 X) := by rw [e']; exact c1
      rw [← eZ] at e1
      subst e1
      by_cases ek : k = K
      · subst ek
        have q : (X == id) = true := by rw [← eX, HE.out]; simp
        clear c1 eX e' eZ
        go_wp2
        go_ret
        exact ⟨rfl, rfl⟩
      · have q : (X == id) = false := by rw [← eX]; simpa using HN.out k (by omega)
        clear c1 eX e' eZ
        go_wp2
        go_roundw
        case rel => exact ⟨k + 1, by omega, by go_num, trivial⟩
        case measure => simp [intOf]; omega
theorem rwaiting_call {B : Nat} {w : World} {f : Nat} {p : Rp} {s : Fr} (h : RfAt B w f p s) {k : Nat} (hk : FrOk k s) (z : Int) : Calls Try.prog 16 #[.pointer (some ⟨f, 0, none⟩), .int .i64 z] w fun e w' => e = .returned (.int .i64 (waitZ s z : Int)) ∧ w' = w := by
  have hlen := h.len
  have t2 := h.t2
  have HH := hidden_ h
  have hall := hidden_ (cnt_all hk z)
  obtain ⟨n, en⟩ : ∃ n, s.L.length = n := ⟨_, rfl⟩
  rw [en] at t2 hlen hall
  have EN := hidden_ en
  obtain ⟨⟨a, c⟩, ea⟩ : ∃ q, p.L = q := ⟨_, rfl⟩
  rw [ea] at t2
  have EA := hidden_ ea
  dsimp only at t2
  clear h en ea hk
  go_enter Try.func16, Try.ntmps16
  go_wp2
  go_loopw [5, 6] (fun u i wr => ∃ k : Nat, k ≤ n ∧ i = .int .i64 k ∧ u = .int .i64 (cntTo s.L z k : Int) ∧ wr = w) (fun _ i _ => n - (intOf i).toNat)
  case atStart => exact ⟨0, Nat.zero_le _, rfl, rfl, rfl⟩
  case round =>
    obtain ⟨k, hk, rfl, rfl, rfl⟩ := hrel
    by_cases hlt : k < n
    · have hlt' : k < s.L.length := by rw [EN.out]; exact hlt
      obtain ⟨y, e1, c1, -⟩ := HH.out.cells hlt'
      rw [EA.out] at e1
      dsimp only at e1
      have hs := cnt_succ s.L z k hlt'
      have hle := cnt_le s.L z k
      obtain ⟨X, eX⟩ : ∃ X : Int, (s.L[k].t : Int) = X := ⟨_, rfl⟩
      rw [eX] at c1 hs
      obtain ⟨Z, eZ⟩ : ∃ Z : Addr, Z = ⟨y, 0, none⟩ := ⟨_, rfl⟩
      obtain ⟨P, eP⟩ : ∃ P, Z.add (k * 3) = P := ⟨_, rfl⟩
      have e' : P = ⟨y, k * 3, none⟩ := by rw [← eP, eZ, add_zero_at]
      have c1' : wr.cell? ⟨P.block, P.off, none⟩ = some (.int .i64 X) := by rw [e']; exact c1
      have c1'' : wr.cell? P = some (.int .i64 X) := by rw [e']; exact c1
      rw [← eZ] at e1
      subst e1
      obtain ⟨C, eC⟩ : ∃ C, cntTo s.L z k = C := ⟨_, rfl⟩
      rw [eC] at hs hle
      by_cases hx : X = z
      · have q : (X == z) = true := by simp [hx]
        rw [if_pos hx] at hs
        have HS := hidden_ hs
        have HC := hidden_ eC
        rw [eC]
        clear c1 eX e' eZ hs hx eC
        obtain ⟨C1, eC1⟩ : ∃ C1 : Nat, C + 1 = C1 := ⟨_, rfl⟩
        have i1 : (C : Int) + 1 = (C1 : Int) := by omega
        have i2 : (C1 : Int) ≤ 9223372036854775807 := by omega
        have HC1 := hidden_ eC1
        clear eC1
        go_wp2
        go_roundw
        case rel => exact ⟨k + 1, by omega, by go_num, by rw [HS.out, HC1.out], trivial⟩
        case measure => simp [intOf]; omega
      · have q : (X == z) = false := by simp [hx]
        rw [if_neg hx, Nat.add_zero] at hs
        have HS := hidden_ hs
        have HC := hidden_ eC
        rw [eC]
        clear c1 eX e' eZ hs hx eC
        go_wp2
        go_roundw
        case rel => exact ⟨k + 1, by omega, by go_num, by rw [HS.out]; rfl, trivial⟩
        case measure => simp [intOf]; omega
    · have e : k = n := by omega
      subst e
      go_wp2
      go_ret
      exact ⟨by rw [hall.out]; rfl, rfl⟩

end Go.Proofs.Ytkjmlbllpnehlaa
