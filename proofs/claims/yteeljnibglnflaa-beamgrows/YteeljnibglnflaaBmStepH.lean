/- Single operations on a case; calls as a region's steps. Calls as a region's steps. Whether a case is great: a contract of the call. Regions that hold both sides' answers side by side, whatever the order. -/
import Derived.Test.YteeljnibglnflaaRows
import Derived.Test.YteeljnibglnflaaView
import Derived.Test.YteeljnibglnflaaBmZ
import Derived.Test.YteeljnibglnflaaBmAt
import Derived.Test.YteeljnibglnflaaGMean
import Derived.Test.YteeljnibglnflaaBmGrow
import Derived.Test.YteeljnibglnflaaBmTo
import Derived.Test.YteeljnibglnflaaBmBox
import Derived.Test.YteeljnibglnflaaBmSame
import Derived.Test.YteeljnibglnflaaGSameI
import Derived.Test.YteeljnibglnflaaBmRunO
import Derived.Test.YteeljnibglnflaaOwn
import Derived.Test.YteeljnibglnflaaBmFin
import Derived.Test.YteeljnibglnflaaGInvIn
import Derived.Test.YteeljnibglnflaaBmReg
import Derived.Test.YteeljnibglnflaaBmSwap
import Derived.Test.YteeljnibglnflaaBmRegG
import Derived.WalkKit
import Derived.ProofKit
import Derived.OpenShut
import Derived.WalkLawsBesides
import Derived.Below
import Derived.Deep.QuietTactic
import Derived.BigQuiet
import Derived.Laws.AppendOwnNone
import Derived.Orders
namespace Go.Proofs.Yteeljnibglnflaa
set_option maxRecDepth 20000
open Go.ChangeShapes Go.WideShapes Go.ChangeAt Go.RowKit
set_option linter.unusedVariables false
set_option linter.unusedSimpArgs false

theorem run_load22 {w : World} {p : Addr} {a : Option Addr} {n c : Nat} (h : w.cell? p = some (.slice a n c)) : (Instr.loadAt 22 (.pointer (some p))).run Try.prog w = .ok (.slice a n c) w := by go_simp
theorem run_load23 {w : World} {p : Addr} {a : Option Addr} {n c : Nat} (h : w.cell? p = some (.slice a n c)) : (Instr.loadAt 23 (.pointer (some p))).run Try.prog w = .ok (.slice a n c) w := by go_simp
theorem run_load3 {w : World} {p : Addr} {z : Int} (h : w.cell? p = some (.int .i64 z)) : (Instr.loadAt 3 (.pointer (some p))).run Try.prog w = .ok (.int .i64 z) w := by go_simp
theorem run_field25_0 (b : Nat) (w : World) : (Instr.fieldAt 25 (.pointer (some ⟨b, 0, none⟩)) 0).run Try.prog w = .ok (.pointer (some ⟨b, 0, none⟩)) w := by go_simp
theorem run_field25_1 (b : Nat) (w : World) : (Instr.fieldAt 25 (.pointer (some ⟨b, 0, none⟩)) 1).run Try.prog w = .ok (.pointer (some ⟨b, 1, none⟩)) w := by go_simp
theorem run_field25_2 (b : Nat) (w : World) : (Instr.fieldAt 25 (.pointer (some ⟨b, 0, none⟩)) 2).run Try.prog w = .ok (.pointer (some ⟨b, 2, none⟩)) w := by go_simp
theorem run_field25_3 (b : Nat) (w : World) : (Instr.fieldAt 25 (.pointer (some ⟨b, 0, none⟩)) 3).run Try.prog w = .ok (.pointer (some ⟨b, 3, none⟩)) w := by go_simp
theorem run_field25_4 (b : Nat) (w : World) : (Instr.fieldAt 25 (.pointer (some ⟨b, 0, none⟩)) 4).run Try.prog w = .ok (.pointer (some ⟨b, 4, none⟩)) w := by go_simp
theorem run_field25_5 (b : Nat) (w : World) : (Instr.fieldAt 25 (.pointer (some ⟨b, 0, none⟩)) 5).run Try.prog w = .ok (.pointer (some ⟨b, 5, none⟩)) w := by go_simp

/-- To of the beams, as a region's step -/
theorem to_step {w W : World} {bx : Nat} {la : Option Addr} {n lc : Nat} {A : Nat → Option Addr} {C : Nat → Nat} {L : Nat → Bm} {ra : Option Addr} {m rc : Nat} {Wd Ln St Pn : Int} (hB : BmAt w la n A C L) (hn : n ≤ 1000) (hT : ∀ r, r < n → (L r).t.length ≤ 1000000) (hW : Below w.heap.size w W ∧ Box W bx la n lc ra m rc Wd Ln St Pn) :
    Calls Try.prog 9 #[.slice la n lc] W fun e w' => (∃ xa xc XA XC, e = .returned (.slice xa n xc) ∧ BmAt w' xa n XA XC L) ∧ Below W.heap.size W w' ∧ (Below w.heap.size w w' ∧ Box w' bx la n lc ra m rc Wd Ln St Pn) :=
  (To_call la n lc A C L W (hB.below hW.1) hn hT).mono (by rintro e W' ⟨⟨a, c, Ar, Cr, he, hb, _, _⟩, hb'⟩; exact ⟨⟨a, c, Ar, Cr, he, hb⟩, hb', below_then hW.1 hb', hW.2.below hb'⟩)

/-- Grow of them, as a region's step; what else the world holds is kept -/
theorem grow_step {W : World} {S : World → Prop} (hS : ∀ W W', S W → Below W.heap.size W W' → S W') {n : Nat} {L : Nat → Bm} {ra : Option Addr} {m rc : Nat} {A1 : Nat → Option Addr} {C1 : Nat → Nat} {R : Nat → List Int} {Wd Ln St : Int} {xa : Option Addr} {xc : Nat} {XA : Nat → Option Addr} {XC : Nat → Nat} (hb : BmAt W xa n XA XC L) (hG : Grid W ra m A1 C1 R) (rl : m ≤ rc) (hR : ∀ r, r < m → (R r).length ≤ 1000) (hn : n ≤ 1000) (hT : ∀ r, r < n → (L r).t.length ≤ 1000000) (hW : S W) :
    Calls Try.prog 10 #[.slice xa n xc, .slice ra m rc, .int .i64 Wd, .int .i64 Ln, .int .i64 St] W fun e w' => (∃ ya yb yc yd Ar Cr, e = .returned (.tuple #[.slice ya (growL L n R m Wd Ln St).length yc, .slice yb (growL L n R m Wd Ln St).length yd, .int .i64 (growE L n R m Wd)]) ∧ (growL L n R m Wd Ln St).length ≤ yc ∧ (growL L n R m Wd Ln St).length ≤ yd ∧ BmC w' ya (growL L n R m Wd Ln St).length Ar Cr (growB L (growL L n R m Wd Ln St)) ∧ Reads .i64 w' yb (growL L n R m Wd Ln St).length (growP (growL L n R m Wd Ln St))) ∧ Below W.heap.size W w' ∧ S w' :=
  (Grow_call xa n xc XA XC L ra m rc A1 C1 R Wd Ln St W hb hG rl hR hn hT).mono (by rintro e W' ⟨⟨ya, yb, yc, yd, Ar, Cr, he, h1, h2, _, ⟨_, h4⟩, h5, h6⟩, hb'⟩; exact ⟨⟨ya, yb, yc, yd, Ar, Cr, he, h1, h2, ⟨h5, h4⟩, h6⟩, hb', hS _ _ hW hb'⟩)

end Go.Proofs.Yteeljnibglnflaa

namespace Go.Proofs.Yteeljnibglnflaa
set_option maxRecDepth 20000
open Go.ChangeShapes Go.WideShapes Go.ChangeAt Go.RowKit
set_option linter.unusedVariables false
set_option linter.unusedSimpArgs false

theorem to_stepS {W : World} {S : World → Prop} (hS : ∀ W W', S W → Below W.heap.size W W' → S W') {la : Option Addr} {n : Nat} (lc : Nat) {A : Nat → Option Addr} {C : Nat → Nat} {L : Nat → Bm} (hB : BmAt W la n A C L) (hn : n ≤ 1000) (hT : ∀ r, r < n → (L r).t.length ≤ 1000000) (hW : S W) :
    Calls Try.prog 9 #[.slice la n lc] W fun e w' => (∃ xa xc XA XC, e = .returned (.slice xa n xc) ∧ BmAt w' xa n XA XC L) ∧ Below W.heap.size W w' ∧ S w' :=
  (To_call la n lc A C L W hB hn hT).mono (by rintro e W' ⟨⟨a, c, Ar, Cr, he, hb, _, _⟩, hb'⟩; exact ⟨⟨a, c, Ar, Cr, he, hb⟩, hb', hS _ _ hW hb'⟩)
theorem from_stepS {W : World} {S : World → Prop} (hS : ∀ W W', S W → Below W.heap.size W W' → S W') {la : Option Addr} {n : Nat} (lc : Nat) {A : Nat → Option Addr} {C : Nat → Nat} {L : Nat → Bm} (hB : BmAt W la n A C L) (hn : n ≤ 1000) (hW : S W) :
    Calls Try.prog 13 #[.slice la n lc] W fun e w' => (∃ xa xc XA XC, e = .returned (.slice xa n xc) ∧ BmAt w' xa n XA XC L) ∧ Below W.heap.size W w' ∧ S w' :=
  (From_call la n lc A C L W hB hn).mono (by rintro e W' ⟨⟨a, c, Ar, Cr, he, hb, _, _⟩, hb'⟩; exact ⟨⟨a, c, Ar, Cr, he, hb⟩, hb', hS _ _ hW hb'⟩)
theorem sameB_stepS {W : World} {S : World → Prop} (hS : ∀ W W', S W → Below W.heap.size W W' → S W') {a0 : Option Addr} {n : Nat} (ca : Nat) {A : Nat → Option Addr} {C : Nat → Nat} {a1 : Option Addr} (cb : Nat) {A1 : Nat → Option Addr} {C1 : Nat → Nat} {L : Nat → Bm} (h0 : BmAt W a0 n A C L) (h1 : BmAt W a1 n A1 C1 L) (hW : S W) :
    Calls Try.prog 12 #[.slice a0 n ca, .slice a1 n cb] W fun e w' => e = .returned (.bool true) ∧ Below W.heap.size W w' ∧ S w' :=
  (sameB_call a0 n ca A C a1 cb A1 C1 L W h0 h1).mono (by rintro e W' ⟨he, m, rfl⟩; exact ⟨he, below_drew (Below.refl _ _) ⟨m, rfl⟩, hS _ _ hW (below_drew (Below.refl _ _) ⟨m, rfl⟩)⟩)
theorem sameI_stepS {W : World} {S : World → Prop} (hS : ∀ W W', S W → Below W.heap.size W W' → S W') {a0 : Option Addr} {n : Nat} (ca : Nat) {a1 : Option Addr} (cb : Nat) {zs : List Int} (h0 : Reads .i64 W a0 n zs) (h1 : Reads .i64 W a1 n zs) (hW : S W) :
    Calls Try.prog 14 #[.slice a0 n ca, .slice a1 n cb] W fun e w' => e = .returned (.bool true) ∧ Below W.heap.size W w' ∧ S w' :=
  (same_ints a0 n ca zs a1 n cb W h0 h1).mono (by rintro e W' ⟨he, m, rfl⟩; exact ⟨he, below_drew (Below.refl _ _) ⟨m, rfl⟩, hS _ _ hW (below_drew (Below.refl _ _) ⟨m, rfl⟩)⟩)
theorem run_cut27 (a : Option Addr) (n c k : Nat) (h : k ≤ n) (hc : n ≤ c) (w : World) : (Instr.sliceAt 27 (.slice a n c) none (some (.int .i64 (k : Nat))) none).run Try.prog w = .ok (.slice a k c) w := by
  have h' : (k : Int) ≤ (c : Int) := by omega
  have h'' : ¬ (c : Int) < (k : Int) := by omega
  cases a <;> go_simp
theorem run_geq3t (a b : Int) (h : b ≤ a) (w : World) : (binOp .geq 3 (.int .i64 a) (.int .i64 b)).run Try.prog w = .ok (.bool true) w := by go_simp
theorem run_eql30 (a : Int) (w : World) : (binOp .eql 30 (.int .i64 a) (.int .i64 a)).run Try.prog w = .ok (.bool true) w := by go_simp

end Go.Proofs.Yteeljnibglnflaa

namespace Go.Proofs.Yteeljnibglnflaa
set_option maxRecDepth 20000
open Go.ChangeShapes Go.WideShapes Go.ChangeAt Go.RowKit
set_option linter.unusedVariables false
set_option linter.unusedSimpArgs false

/-- a case's variable -/
def csC (la : Option Addr) (n lc : Nat) (ra : Option Addr) (m rc : Nat) (W Ln St Pn : Int) : List Value := [.slice la n lc, .slice ra m rc, .int .i64 W, .int .i64 Ln, .int .i64 St, .int .i64 Pn]

def GreatAns (e : Ending) (L : Nat → Bm) (n : Nat) (R : Nat → List Int) (m : Nat) : Prop := ∃ g, e = .returned (.bool g) ∧ (g = false → n < 200 ∧ (∀ r, r < n → (L r).t.length < 200) ∧ ∀ r, r < m → (R r).length < 200)

set_option maxHeartbeats 2000000 in
theorem great_call (la : Option Addr) (n lc : Nat) (A : Nat → Option Addr) (C : Nat → Nat) (L : Nat → Bm) (ra : Option Addr) (m rc : Nat) (A1 : Nat → Option Addr) (C1 : Nat → Nat) (R : Nat → List Int) (W Ln St Pn : Int) (w : World) (h0 : BmAt w la n A C L) (h1 : Grid w ra m A1 C1 R)
    (hn : n ≤ 1152921504606846976) (hT : ∀ r, r < n → (L r).t.length ≤ 1152921504606846976) (hR : ∀ r, r < m → (R r).length ≤ 1152921504606846976) :
    Calls Try.prog 8 #[.agg #[.slice la n lc, .slice ra m rc, .int .i64 W, .int .i64 Ln, .int .i64 St, .int .i64 Pn]] w fun e w' => GreatAns e L n R m ∧ Below w.heap.size w w' := by
  have hm := h0.max
  have hm1 := h1.max
  obtain ⟨W0, eW0⟩ : ∃ W0, w.alloc (.cells #[.slice la n lc, .slice ra m rc, .int .i64 W, .int .i64 Ln, .int .i64 St, .int .i64 Pn] 25) = W0 := ⟨_, rfl⟩
  have b0 : Below w.heap.size w W0 := by rw [← eW0]; exact below_new (Below.refl _ _) _
  have c0' : W0.cell? ⟨w.heap.size, 0, none⟩ = some (.slice la n lc) := by rw [← eW0]; simp
  have c1' : W0.cell? ⟨w.heap.size, 1, none⟩ = some (.slice ra m rc) := by rw [← eW0]; simp
  have H0 : Hid (BmAt W0 la n A C L) := h0.below b0
  have H1 : Hid (Grid W0 ra m A1 C1 R) := h1.below b0
  have HT : Hid (∀ r, r < n → (L r).t.length ≤ 1152921504606846976) := hT
  have HR : Hid (∀ r, r < m → (R r).length ≤ 1152921504606846976) := hR
  clear h0 h1 hT hR
  go_enter Try.func8, Try.ntmps8
  go_wp2
  go_loopw [3, 4] (fun s i wr => ∃ k N : Nat, k ≤ n ∧ i = .int .i64 k ∧ s = .int .i64 N ∧ n ≤ N ∧ N ≤ 2305843009213693952 ∧ wr = W0 ∧ Hid (∀ r, r < k → (L r).t.length ≤ N)) (fun _ i _ => n - (intOf i).toNat)
  case atStart => exact ⟨0, n, Nat.zero_le _, rfl, rfl, Nat.le_refl _, by omega, rfl, fun r hr => by omega⟩
  case round =>
    obtain ⟨k, N, hk, rfl, rfl, hnN, hN, hw0, HA⟩ := hrel
    obtain rfl := hw0.symm
    by_cases hgo : k < n ∧ N < 200
    · obtain ⟨hlt, hN2⟩ := hgo
      obtain ⟨x, hx⟩ := H0.out.some_ (by omega)
      subst hx
      obtain ⟨y, ey, d0, d1, d2⟩ := H0.out.at3 hlt
      have tl := HT.out k hlt
      have HA2 : Hid (∀ r, r < k + 1 → (L r).t.length ≤ N + (L k).t.length) := show ∀ r, r < k + 1 → _ from fun r hr => by
        by_cases e : r = k
        · subst e; omega
        · have := HA.out r (by omega); omega
      obtain ⟨T, eT⟩ : ∃ T, (L k).t.length = T := ⟨_, rfl⟩
      rw [eT] at d0 tl HA2
      obtain ⟨NT, eNT⟩ : ∃ NT, N + T = NT := ⟨_, rfl⟩
      have zNT : (N : Int) + (T : Int) = (NT : Int) := by omega
      rw [eNT] at HA2
      have hNT : NT ≤ 2305843009213693952 ∧ n ≤ NT := by omega
      clear eT HA eNT
      go_wp2
      go_roundw
      case rel => exact ⟨k + 1, NT, by omega, by go_num, rfl, hNT.2, hNT.1, by first | rfl | trivial, HA2⟩
      case measure => simp [intOf]; omega
    · have HE : Hid (N < 200 → ∀ r, r < n → (L r).t.length ≤ N) := show N < 200 → ∀ r, r < n → _ from fun h r hr => HA.out r (by omega)
      have hex : ¬ ((k : Int) < (n : Int)) ∨ ¬ ((N : Int) < 200) := by omega
      clear HA hgo
      have hex' : ((k : Int) < (n : Int) ∧ ¬ ((N : Int) < 200)) ∨ ¬ ((k : Int) < (n : Int)) := by omega
      clear hex
      rcases hex' with ⟨hex, hexb⟩ | hex
      all_goals (
        go_wp2
        go_loopw [3, 5] (fun s i wr => ∃ j M : Nat, j ≤ m ∧ i = .int .i64 j ∧ s = .int .i64 M ∧ N ≤ M ∧ M ≤ 4611686018427387904 ∧ wr = W0 ∧ Hid (∀ r, r < j → (R r).length ≤ M)) (fun _ i _ => m - (intOf i).toNat)
        case atStart => exact ⟨0, N, Nat.zero_le _, rfl, rfl, Nat.le_refl _, by omega, rfl, fun r hr => by omega⟩
        case round =>
          obtain ⟨j, M, hj, rfl, rfl, hNM, hM, hw0, HA⟩ := hrel
          obtain rfl := hw0.symm
          by_cases hgo : j < m ∧ M < 200
          · obtain ⟨hlt, hN2⟩ := hgo
            by_cases hbad : 200 ≤ N
            · exfalso
              omega
            · try clear hexb
              clear hbad
              obtain ⟨x, hx⟩ := H1.out.some_ (by omega)
              subst hx
              have d0 := H1.out.cell x rfl j hlt
              have tl := HR.out j hlt
              have HA2 : Hid (∀ r, r < j + 1 → (R r).length ≤ M + (R j).length) := show ∀ r, r < j + 1 → _ from fun r hr => by
                by_cases e : r = j
                · subst e; omega
                · have := HA.out r (by omega); omega
              obtain ⟨T, eT⟩ : ∃ T, (R j).length = T := ⟨_, rfl⟩
              rw [eT] at d0 tl HA2
              obtain ⟨NT, eNT⟩ : ∃ NT, M + T = NT := ⟨_, rfl⟩
              have zNT : (M : Int) + (T : Int) = (NT : Int) := by omega
              rw [eNT] at HA2
              have hNT : NT ≤ 4611686018427387904 ∧ N ≤ NT := by omega
              clear eT HA eNT
              go_wp2
              go_roundw
              case rel => exact ⟨j + 1, NT, by omega, by go_num, rfl, hNT.2, hNT.1, by first | rfl | trivial, HA2⟩
              case measure => simp [intOf]; omega
          · have HE2 : Hid (M < 200 → ∀ r, r < m → (R r).length ≤ M) := show M < 200 → ∀ r, r < m → _ from fun h r hr => HA.out r (by omega)
            have hex2 : ¬ ((j : Int) < (m : Int)) ∨ ¬ ((M : Int) < 200) := by omega
            clear HA hgo
            have done : ∀ g : Bool, g = decide ((200 : Int) ≤ (M : Int)) → (g = false → n < 200 ∧ (∀ r, r < n → (L r).t.length < 200) ∧ ∀ r, r < m → (R r).length < 200) := fun g hg h => by
              subst hg
              have h2 : M < 200 := by have := of_decide_eq_false h; omega
              exact ⟨by omega, fun r hr => by have := HE.out (by omega) r hr; omega, fun r hr => by have := HE2.out h2 r hr; omega⟩
            have DN : Hid _ := done
            clear done
            have hex3 : ((j : Int) < (m : Int) ∧ ¬ ((M : Int) < 200)) ∨ ¬ ((j : Int) < (m : Int)) := by omega
            clear hex2
            rcases hex3 with ⟨hex2, hex2b⟩ | hex2
            all_goals (
              go_wp2
              go_ret
              exact ⟨⟨_, rfl, fun h => DN.out _ (by first | rfl | (symm; apply decide_eq_true; omega) | (symm; apply decide_eq_false; omega)) h⟩, b0⟩))

end Go.Proofs.Yteeljnibglnflaa

namespace Go.Proofs.Yteeljnibglnflaa
set_option maxRecDepth 20000
open Go.ChangeShapes Go.WideShapes Go.ChangeAt Go.RowKit
set_option linter.unusedVariables false
set_option linter.unusedSimpArgs false

def gaD (i : Nat) : Option Nat := match i with | 0 => some 45 | 1 => some 46 | 2 => some 47 | 3 => some 48 | 4 => some 49 | 5 => some 50 | 6 => some 51 | 7 => some 52 | 8 => some 53 | 9 => some 54 | 10 => some 55 | 11 => some 56 | 12 => some 57 | 13 => some 58 | 14 => some 59 | 15 => some 60 | 16 => some 61 | 17 => some 62 | 18 => some 63 | 19 => some 64 | 20 => some 65 | 21 => some 66 | 22 => some 67 | 23 => some 68 | _ => none
theorem gaD_inj : ∀ i, i < 24 → ∀ j, j < 24 → gaD i = gaD j → gaD i ≠ none → i = j := by decide
theorem gaD_lt : ∀ i, i < 24 → ∀ d, gaD i = some d → d < 102 := by
  intro i hi d h
  have : ∀ i, i < 24 → (gaD i).all (fun d => decide (d < 102)) = true := by decide
  have := this i hi
  rw [h] at this
  simpa using this
def gaF (bx nn qn yc yd zc zd oc lc : Nat) (ya yb za zb oa la : Option Addr) (ec : Int) (LG LL : Nat → Bm) (i : Nat) (q : Value) (w : World) : Prop := match i with
  | 0 => q = .slice ya qn yc
  | 1 => ∃ xa xc XA XC, q = .slice xa qn xc ∧ BmAt w xa qn XA XC LG
  | 2 => q = .slice za qn zc
  | 3 => q = .bool true
  | 4 => q = .bool false
  | 5 => q = .bool false
  | 6 => q = .slice yb qn yd
  | 7 => q = .slice zb qn zd
  | 8 => q = .bool true
  | 9 => q = .bool false
  | 10 => q = .bool false
  | 11 => q = .bool false
  | 12 => q = .int .i64 ec
  | 13 => q = .int .i64 ec
  | 14 => q = .bool false
  | 15 => q = .bool false
  | 16 => q = .bool false
  | 17 => q = .slice oa nn oc
  | 18 => ∃ xa xc XA XC, q = .slice xa nn xc ∧ BmAt w xa nn XA XC LL
  | 19 => q = .pointer (some ⟨bx, 0, none⟩)
  | 20 => q = .slice la nn lc
  | 21 => q = .bool true
  | 22 => q = .bool false
  | 23 => q = .bool false
  | _ => True
theorem gaF_below {bx nn qn yc yd zc zd oc lc : Nat} {ya yb za zb oa la : Option Addr} {ec : Int} {LG LL : Nat → Bm} {i : Nat} {q : Value} {w w' : World} (h : gaF bx nn qn yc yd zc zd oc lc ya yb za zb oa la ec LG LL i q w) (hb : Below w.heap.size w w') : gaF bx nn qn yc yd zc zd oc lc ya yb za zb oa la ec LG LL i q w' := by
  unfold gaF at h ⊢
  split
  · exact h
  · obtain ⟨xa, xc, XA, XC, h1, h2⟩ := h; exact ⟨xa, xc, XA, XC, h1, h2.below hb⟩
  · exact h
  · exact h
  · exact h
  · exact h
  · exact h
  · exact h
  · exact h
  · exact h
  · exact h
  · exact h
  · exact h
  · exact h
  · exact h
  · exact h
  · exact h
  · exact h
  · obtain ⟨xa, xc, XA, XC, h1, h2⟩ := h; exact ⟨xa, xc, XA, XC, h1, h2.below hb⟩
  · exact h
  · exact h
  · exact h
  · exact h
  · exact h
  · trivial

set_option maxHeartbeats 8000000 in
theorem ga_region {id : Nat} {ops : Array Oper} {Q : Exit → Act → World → Prop} {a0 : Act} {w0 : World} (bx nn qn yc yd zc zd oc lc : Nat) (ya yb za zb oa la : Option Addr) (ec : Int) (LG LL : Nat → Bm) (S : World → Prop) (hlow : lowB ops = true) (hsz : ops.size = 24)
    (o0 : OpIn ops 0 (some 45) (.move (.tmp 4)) none []) (o1 : OpIn ops 1 (some 46) (.call { callee := .value (.func 13), args := #[.tmp 45], argTypes := #[27] }) none [0]) (o2 : OpIn ops 2 (some 47) (.move (.tmp 7)) none []) (o3 : OpIn ops 3 (some 48) (.call { callee := .value (.func 12), args := #[.tmp 46, .tmp 47], argTypes := #[22, 22] }) none [1, 2]) (o4 : OpIn ops 4 (some 49) (.unOp .not 4 (.tmp 48)) none [3]) (o5 : OpIn ops 5 (some 50) (.move (.tmp 49)) none [4]) (o6 : OpIn ops 6 (some 51) (.move (.tmp 5)) (some (5, false)) [5]) (o7 : OpIn ops 7 (some 52) (.move (.tmp 8)) (some (5, false)) [5]) (o8 : OpIn ops 8 (some 53) (.call { callee := .value (.func 14), args := #[.tmp 51, .tmp 52], argTypes := #[29, 29] }) (some (5, false)) [5, 6, 7]) (o9 : OpIn ops 9 (some 54) (.unOp .not 4 (.tmp 53)) (some (5, false)) [5, 8]) (o10 : OpIn ops 10 (some 55) (.pick (.tmp 50) (.const (.bool true)) (.tmp 54)) none [5, 9]) (o11 : OpIn ops 11 (some 56) (.move (.tmp 55)) none [10]) (o12 : OpIn ops 12 (some 57) (.move (.tmp 6)) (some (11, false)) [11]) (o13 : OpIn ops 13 (some 58) (.move (.tmp 9)) (some (11, false)) [11]) (o14 : OpIn ops 14 (some 59) (.binOp .neq 30 (.tmp 57) (.tmp 58) 30) (some (11, false)) [11, 12, 13]) (o15 : OpIn ops 15 (some 60) (.pick (.tmp 56) (.const (.bool true)) (.tmp 59)) none [11, 14]) (o16 : OpIn ops 16 (some 61) (.move (.tmp 60)) none [15]) (o17 : OpIn ops 17 (some 62) (.move (.tmp 3)) (some (16, false)) [16]) (o18 : OpIn ops 18 (some 63) (.call { callee := .value (.func 13), args := #[.tmp 62], argTypes := #[27] }) (some (16, false)) [16, 17]) (o19 : OpIn ops 19 (some 64) (.fieldAddr 25 (.tmp 1) 0) (some (16, false)) [16]) (o20 : OpIn ops 20 (some 65) (.load 22 (.tmp 64)) (some (16, false)) [16, 19]) (o21 : OpIn ops 21 (some 66) (.call { callee := .value (.func 12), args := #[.tmp 63, .tmp 65], argTypes := #[22, 22] }) (some (16, false)) [16, 18, 20]) (o22 : OpIn ops 22 (some 67) (.unOp .not 4 (.tmp 66)) (some (16, false)) [16, 21]) (o23 : OpIn ops 23 (some 68) (.pick (.tmp 61) (.const (.bool true)) (.tmp 67)) none [16, 22])
    (hS : S w0.drew)
    (x1 : ∀ w, S w → Calls Try.prog 13 #[.slice ya qn yc] w fun e w' => (∃ xa xc XA XC, e = .returned (.slice xa qn xc) ∧ BmAt w' xa qn XA XC LG) ∧ Below w.heap.size w w' ∧ S w')
    (x3 : ∀ w xa xc XA XC, S w → BmAt w xa qn XA XC LG → Calls Try.prog 12 #[.slice xa qn xc, .slice za qn zc] w fun e w' => e = .returned (.bool true) ∧ Below w.heap.size w w' ∧ S w')
    (x8 : ∀ w, S w → Calls Try.prog 14 #[.slice yb qn yd, .slice zb qn zd] w fun e w' => e = .returned (.bool true) ∧ Below w.heap.size w w' ∧ S w')
    (x14 : ∀ w, (binOp .neq 30 (.int .i64 ec) (.int .i64 ec)).run Try.prog w = .ok (.bool false) w)
    (x18 : ∀ w, S w → Calls Try.prog 13 #[.slice oa nn oc] w fun e w' => (∃ xa xc XA XC, e = .returned (.slice xa nn xc) ∧ BmAt w' xa nn XA XC LL) ∧ Below w.heap.size w w' ∧ S w')
    (x19 : ∀ w, (Instr.fieldAt 25 (.pointer (some ⟨bx, 0, none⟩)) 0).run Try.prog w = .ok (.pointer (some ⟨bx, 0, none⟩)) w)
    (x20 : ∀ w, S w → (Instr.loadAt 22 (.pointer (some ⟨bx, 0, none⟩))).run Try.prog w = .ok (.slice la nn lc) w)
    (x21 : ∀ w xa xc XA XC, S w → BmAt w xa nn XA XC LL → Calls Try.prog 12 #[.slice xa nn xc, .slice la nn lc] w fun e w' => e = .returned (.bool true) ∧ Below w.heap.size w w' ∧ S w')
    (u1 : a0.tmps.getD 1 undef = .pointer (some ⟨bx, 0, none⟩))
    (u3 : a0.tmps.getD 3 undef = .slice oa nn oc)
    (u4 : a0.tmps.getD 4 undef = .slice ya qn yc)
    (u5 : a0.tmps.getD 5 undef = .slice yb qn yd)
    (u6 : a0.tmps.getD 6 undef = .int .i64 ec)
    (u7 : a0.tmps.getD 7 undef = .slice za qn zc)
    (u8 : a0.tmps.getD 8 undef = .slice zb qn zd)
    (u9 : a0.tmps.getD 9 undef = .int .i64 ec)
    (hs : 102 ≤ a0.tmps.size)
    (fin : ∀ a w, a.tmps.size = a0.tmps.size → a.defers = a0.defers → (∀ s, (∀ i, i < 24 → gaD i ≠ some s) → a.tmps.getD s undef = a0.tmps.getD s undef) → S w → (∀ i d, i < 24 → gaD i = some d → gaF bx nn qn yc yd zc zd oc lc ya yb za zb oa la ec LG LL i (a.tmps.getD d undef) w) → Q .normal a w) : (Code.region id ops true).wp Try.prog Q a0 w0 := by
  have r12 : ∀ args w, (callFunc 12 args).run Try.prog w = .ok (.enter 12 args) w := enters_of Try.func12 (by kernel_rfl) rfl
  have r13 : ∀ args w, (callFunc 13 args).run Try.prog w = .ok (.enter 13 args) w := enters_of Try.func13 (by kernel_rfl) rfl
  have r14 : ∀ args w, (callFunc 14 args).run Try.prog w = .ok (.enter 14 args) w := enters_of Try.func14 (by kernel_rfl) rfl
  refine wp_region_inv2 (by kernel_rfl) hlow (Inv 24 gaD a0 (fun l a w => S w ∧ Kept2 24 gaD a0 l a) (fun _ => gaF bx nn qn yc yd zc zd oc lc ya yb za zb oa la ec LG LL)) (Inv.start ⟨hS, kept2_start _ _ _⟩) ?_ ?_
  · intro l i o a w ho hl hcl hdep hI
    have hi : i < 24 := by rw [← hsz]; exact (Array.getElem?_eq_some_iff.1 ho).1
    have ev : ∀ (s : Nat), a.eval (.tmp s) = a.tmps.getD s undef := fun _ => rfl
    have evf : ∀ f, a.eval (.func f) = .func (.func f) #[] #[] := fun _ => rfl
    have evc : ∀ c : Value, a.eval (.const c) = c := fun _ => rfl
    have inj : ∀ d, gaD i = some d → ∀ j d', j < 24 → gaD j = some d' → j ≠ i → d' ≠ d := fun d hd j d' hj hd' hne e => hne (gaD_inj j hj i hi (by rw [hd', hd, e]) (by rw [hd']; simp))
    have kp : ∀ s, (∀ i, i < 24 → gaD i ≠ some s) → a.tmps.getD s undef = a0.tmps.getD s undef := hI.kept
    have hw : S w := hI.world.1
    have k2 := hI.world.2
    have ex0 := hI.world.2
    have go : ∀ {d : Nat} {v : Value} {w' : World}, gaD i = some d → Below w.heap.size w w' → S w' → gaF bx nn qn yc yd zc zd oc lc ya yb za zb oa la ec LG LL i v w' → Inv 24 gaD a0 (fun l a w => S w ∧ Kept2 24 gaD a0 l a) (fun _ => gaF bx nn qn yc yd zc zd oc lc ya yb za zb oa la ec LG LL) (fun j => l j || j == i) (a.put (some d) v) w' := by
      intro d v w' hD hb hS' hF
      exact hI.put hi hD (Nat.lt_of_lt_of_le (gaD_lt i hi d hD) hs) (inj d hD) ⟨hS', k2.put hD (by rw [hI.size]; exact Nat.lt_of_lt_of_le (gaD_lt i hi d hD) hs) hi⟩ hF (fun j u _ _ _ hf => gaF_below hf hb)
    rcases (show i = 0 ∨ i = 1 ∨ i = 2 ∨ i = 3 ∨ i = 4 ∨ i = 5 ∨ i = 6 ∨ i = 7 ∨ i = 8 ∨ i = 9 ∨ i = 10 ∨ i = 11 ∨ i = 12 ∨ i = 13 ∨ i = 14 ∨ i = 15 ∨ i = 16 ∨ i = 17 ∨ i = 18 ∨ i = 19 ∨ i = 20 ∨ i = 21 ∨ i = 22 ∨ i = 23 by omega) with rfl | rfl | rfl | rfl | rfl | rfl | rfl | rfl | rfl | rfl | rfl | rfl | rfl | rfl | rfl | rfl | rfl | rfl | rfl | rfl | rfl | rfl | rfl | rfl
    · obtain ⟨o', e1, e2, e3, e4, e5⟩ := o0
      obtain rfl := Option.some.inj (ho.symm.trans e1)
      have dp := dep_of' e5 hdep
      have U4 : a.tmps.getD 4 undef = .slice ya qn yc := (kp 4 (by decide)).trans u4
      exact wpOp_value (v := .slice ya qn yc) (w' := w) ho e4 (by simp [execOp, e3, ev, evc, U4]) (by rw [e2]; exact go rfl (Below.refl _ _) hw rfl)
    · obtain ⟨o', e1, e2, e3, e4, e5⟩ := o1
      obtain rfl := Option.some.inj (ho.symm.trans e1)
      have dp := dep_of' e5 hdep
      have V0 : a.tmps.getD 45 undef = .slice ya qn yc := hI.val 0 45 (by decide) rfl (dp 0 (by decide))
      refine wpOp_call (f := 13) (args := #[.slice ya qn yc]) ho e4 (by simp [execOp, e3, resolve, invoke, Deferred.ofValue, r13, ev, evf, evc, V0]) ((x1 w hw).mono ?_)
      rintro e W' ⟨⟨xa, xc, XA, XC, rfl, h1⟩, hb6, hs6⟩
      refine ⟨_, rfl, ?_⟩
      rw [e2]
      exact go rfl hb6 hs6 ⟨xa, xc, XA, XC, rfl, h1⟩
    · obtain ⟨o', e1, e2, e3, e4, e5⟩ := o2
      obtain rfl := Option.some.inj (ho.symm.trans e1)
      have dp := dep_of' e5 hdep
      have U7 : a.tmps.getD 7 undef = .slice za qn zc := (kp 7 (by decide)).trans u7
      exact wpOp_value (v := .slice za qn zc) (w' := w) ho e4 (by simp [execOp, e3, ev, evc, U7]) (by rw [e2]; exact go rfl (Below.refl _ _) hw rfl)
    · obtain ⟨o', e1, e2, e3, e4, e5⟩ := o3
      obtain rfl := Option.some.inj (ho.symm.trans e1)
      have dp := dep_of' e5 hdep
      obtain ⟨xa1, xc1, XA1, XC1, V1, f1⟩ : ∃ xa xc XA XC, a.tmps.getD 46 undef = .slice xa qn xc ∧ BmAt w xa qn XA XC LG := hI.val 1 46 (by decide) rfl (dp 1 (by decide))
      have V2 : a.tmps.getD 47 undef = .slice za qn zc := hI.val 2 47 (by decide) rfl (dp 2 (by decide))
      refine wpOp_call (f := 12) (args := #[.slice xa1 qn xc1, .slice za qn zc]) ho e4 (by simp [execOp, e3, resolve, invoke, Deferred.ofValue, r12, ev, evf, evc, V1, V2]) ((x3 w xa1 xc1 XA1 XC1 hw f1).mono ?_)
      rintro e W' ⟨rfl, hb6, hs6⟩
      refine ⟨_, rfl, ?_⟩
      rw [e2]
      exact go rfl hb6 hs6 rfl
    · obtain ⟨o', e1, e2, e3, e4, e5⟩ := o4
      obtain rfl := Option.some.inj (ho.symm.trans e1)
      have dp := dep_of' e5 hdep
      have V3 : a.tmps.getD 48 undef = .bool true := hI.val 3 48 (by decide) rfl (dp 3 (by decide))
      exact wpOp_value (v := .bool false) (w' := w) ho e4 (by simp [execOp, e3, ev, evc, V3, Op.unary]) (by rw [e2]; exact go rfl (Below.refl _ _) hw rfl)
    · obtain ⟨o', e1, e2, e3, e4, e5⟩ := o5
      obtain rfl := Option.some.inj (ho.symm.trans e1)
      have dp := dep_of' e5 hdep
      have V4 : a.tmps.getD 49 undef = .bool false := hI.val 4 49 (by decide) rfl (dp 4 (by decide))
      exact wpOp_value (v := .bool false) (w' := w) ho e4 (by simp [execOp, e3, ev, evc, V4]) (by rw [e2]; exact go rfl (Below.refl _ _) hw rfl)
    · obtain ⟨o', e1, e2, e3, e4, e5⟩ := o6
      obtain rfl := Option.some.inj (ho.symm.trans e1)
      have dp := dep_of' e5 hdep
      have V5 : a.tmps.getD 50 undef = .bool false := hI.val 5 50 (by decide) rfl (dp 5 (by decide))
      have U5 : a.tmps.getD 5 undef = .slice yb qn yd := (kp 5 (by decide)).trans u5
      obtain ⟨og, g1, g2, -, -, -⟩ := o5
      exact wpOp_value_b (v := .slice yb qn yd) (w' := w) ho e4 g1 g2 (by rw [hI.size]; exact Nat.lt_of_lt_of_le (by decide) hs) V5 (by simp [execOp, e3, ev, evc, V5, U5]) (by rw [e2]; exact go rfl (Below.refl _ _) hw rfl)
    · obtain ⟨o', e1, e2, e3, e4, e5⟩ := o7
      obtain rfl := Option.some.inj (ho.symm.trans e1)
      have dp := dep_of' e5 hdep
      have V5 : a.tmps.getD 50 undef = .bool false := hI.val 5 50 (by decide) rfl (dp 5 (by decide))
      have U8 : a.tmps.getD 8 undef = .slice zb qn zd := (kp 8 (by decide)).trans u8
      obtain ⟨og, g1, g2, -, -, -⟩ := o5
      exact wpOp_value_b (v := .slice zb qn zd) (w' := w) ho e4 g1 g2 (by rw [hI.size]; exact Nat.lt_of_lt_of_le (by decide) hs) V5 (by simp [execOp, e3, ev, evc, V5, U8]) (by rw [e2]; exact go rfl (Below.refl _ _) hw rfl)
    · obtain ⟨o', e1, e2, e3, e4, e5⟩ := o8
      obtain rfl := Option.some.inj (ho.symm.trans e1)
      have dp := dep_of' e5 hdep
      have V5 : a.tmps.getD 50 undef = .bool false := hI.val 5 50 (by decide) rfl (dp 5 (by decide))
      have V6 : a.tmps.getD 51 undef = .slice yb qn yd := hI.val 6 51 (by decide) rfl (dp 6 (by decide))
      have V7 : a.tmps.getD 52 undef = .slice zb qn zd := hI.val 7 52 (by decide) rfl (dp 7 (by decide))
      obtain ⟨og, g1, g2, -, -, -⟩ := o5
      refine wpOp_call_b (f := 14) (args := #[.slice yb qn yd, .slice zb qn zd]) ho e4 g1 g2 (by rw [hI.size]; exact Nat.lt_of_lt_of_le (by decide) hs) V5 (by simp [execOp, e3, resolve, invoke, Deferred.ofValue, r14, ev, evf, evc, V5, V6, V7]) ((x8 w hw).mono ?_)
      rintro e W' ⟨rfl, hb6, hs6⟩
      refine ⟨_, rfl, ?_⟩
      rw [e2]
      exact go rfl hb6 hs6 rfl
    · obtain ⟨o', e1, e2, e3, e4, e5⟩ := o9
      obtain rfl := Option.some.inj (ho.symm.trans e1)
      have dp := dep_of' e5 hdep
      have V5 : a.tmps.getD 50 undef = .bool false := hI.val 5 50 (by decide) rfl (dp 5 (by decide))
      have V8 : a.tmps.getD 53 undef = .bool true := hI.val 8 53 (by decide) rfl (dp 8 (by decide))
      obtain ⟨og, g1, g2, -, -, -⟩ := o5
      exact wpOp_value_b (v := .bool false) (w' := w) ho e4 g1 g2 (by rw [hI.size]; exact Nat.lt_of_lt_of_le (by decide) hs) V5 (by simp [execOp, e3, ev, evc, V5, V8, Op.unary]) (by rw [e2]; exact go rfl (Below.refl _ _) hw rfl)
    · obtain ⟨o', e1, e2, e3, e4, e5⟩ := o10
      obtain rfl := Option.some.inj (ho.symm.trans e1)
      have dp := dep_of' e5 hdep
      have V5 : a.tmps.getD 50 undef = .bool false := hI.val 5 50 (by decide) rfl (dp 5 (by decide))
      have V9 : a.tmps.getD 54 undef = .bool false := hI.val 9 54 (by decide) rfl (dp 9 (by decide))
      exact wpOp_value (v := .bool false) (w' := w) ho e4 (by simp [execOp, e3, ev, evc, V5, V9, asBool]) (by rw [e2]; exact go rfl (Below.refl _ _) hw rfl)
    · obtain ⟨o', e1, e2, e3, e4, e5⟩ := o11
      obtain rfl := Option.some.inj (ho.symm.trans e1)
      have dp := dep_of' e5 hdep
      have V10 : a.tmps.getD 55 undef = .bool false := hI.val 10 55 (by decide) rfl (dp 10 (by decide))
      exact wpOp_value (v := .bool false) (w' := w) ho e4 (by simp [execOp, e3, ev, evc, V10]) (by rw [e2]; exact go rfl (Below.refl _ _) hw rfl)
    · obtain ⟨o', e1, e2, e3, e4, e5⟩ := o12
      obtain rfl := Option.some.inj (ho.symm.trans e1)
      have dp := dep_of' e5 hdep
      have V11 : a.tmps.getD 56 undef = .bool false := hI.val 11 56 (by decide) rfl (dp 11 (by decide))
      have U6 : a.tmps.getD 6 undef = .int .i64 ec := (kp 6 (by decide)).trans u6
      obtain ⟨og, g1, g2, -, -, -⟩ := o11
      exact wpOp_value_b (v := .int .i64 ec) (w' := w) ho e4 g1 g2 (by rw [hI.size]; exact Nat.lt_of_lt_of_le (by decide) hs) V11 (by simp [execOp, e3, ev, evc, V11, U6]) (by rw [e2]; exact go rfl (Below.refl _ _) hw rfl)
    · obtain ⟨o', e1, e2, e3, e4, e5⟩ := o13
      obtain rfl := Option.some.inj (ho.symm.trans e1)
      have dp := dep_of' e5 hdep
      have V11 : a.tmps.getD 56 undef = .bool false := hI.val 11 56 (by decide) rfl (dp 11 (by decide))
      have U9 : a.tmps.getD 9 undef = .int .i64 ec := (kp 9 (by decide)).trans u9
      obtain ⟨og, g1, g2, -, -, -⟩ := o11
      exact wpOp_value_b (v := .int .i64 ec) (w' := w) ho e4 g1 g2 (by rw [hI.size]; exact Nat.lt_of_lt_of_le (by decide) hs) V11 (by simp [execOp, e3, ev, evc, V11, U9]) (by rw [e2]; exact go rfl (Below.refl _ _) hw rfl)
    · obtain ⟨o', e1, e2, e3, e4, e5⟩ := o14
      obtain rfl := Option.some.inj (ho.symm.trans e1)
      have dp := dep_of' e5 hdep
      have V11 : a.tmps.getD 56 undef = .bool false := hI.val 11 56 (by decide) rfl (dp 11 (by decide))
      have V12 : a.tmps.getD 57 undef = .int .i64 ec := hI.val 12 57 (by decide) rfl (dp 12 (by decide))
      have V13 : a.tmps.getD 58 undef = .int .i64 ec := hI.val 13 58 (by decide) rfl (dp 13 (by decide))
      obtain ⟨og, g1, g2, -, -, -⟩ := o11
      exact wpOp_value_b (v := .bool false) (w' := w) ho e4 g1 g2 (by rw [hI.size]; exact Nat.lt_of_lt_of_le (by decide) hs) V11 (by simp [execOp, e3, ev, evc, V11, V12, V13, x14 w, eqGuard]) (by rw [e2]; exact go rfl (Below.refl _ _) hw rfl)
    · obtain ⟨o', e1, e2, e3, e4, e5⟩ := o15
      obtain rfl := Option.some.inj (ho.symm.trans e1)
      have dp := dep_of' e5 hdep
      have V11 : a.tmps.getD 56 undef = .bool false := hI.val 11 56 (by decide) rfl (dp 11 (by decide))
      have V14 : a.tmps.getD 59 undef = .bool false := hI.val 14 59 (by decide) rfl (dp 14 (by decide))
      exact wpOp_value (v := .bool false) (w' := w) ho e4 (by simp [execOp, e3, ev, evc, V11, V14, asBool]) (by rw [e2]; exact go rfl (Below.refl _ _) hw rfl)
    · obtain ⟨o', e1, e2, e3, e4, e5⟩ := o16
      obtain rfl := Option.some.inj (ho.symm.trans e1)
      have dp := dep_of' e5 hdep
      have V15 : a.tmps.getD 60 undef = .bool false := hI.val 15 60 (by decide) rfl (dp 15 (by decide))
      exact wpOp_value (v := .bool false) (w' := w) ho e4 (by simp [execOp, e3, ev, evc, V15]) (by rw [e2]; exact go rfl (Below.refl _ _) hw rfl)
    · obtain ⟨o', e1, e2, e3, e4, e5⟩ := o17
      obtain rfl := Option.some.inj (ho.symm.trans e1)
      have dp := dep_of' e5 hdep
      have V16 : a.tmps.getD 61 undef = .bool false := hI.val 16 61 (by decide) rfl (dp 16 (by decide))
      have U3 : a.tmps.getD 3 undef = .slice oa nn oc := (kp 3 (by decide)).trans u3
      obtain ⟨og, g1, g2, -, -, -⟩ := o16
      exact wpOp_value_b (v := .slice oa nn oc) (w' := w) ho e4 g1 g2 (by rw [hI.size]; exact Nat.lt_of_lt_of_le (by decide) hs) V16 (by simp [execOp, e3, ev, evc, V16, U3]) (by rw [e2]; exact go rfl (Below.refl _ _) hw rfl)
    · obtain ⟨o', e1, e2, e3, e4, e5⟩ := o18
      obtain rfl := Option.some.inj (ho.symm.trans e1)
      have dp := dep_of' e5 hdep
      have V16 : a.tmps.getD 61 undef = .bool false := hI.val 16 61 (by decide) rfl (dp 16 (by decide))
      have V17 : a.tmps.getD 62 undef = .slice oa nn oc := hI.val 17 62 (by decide) rfl (dp 17 (by decide))
      obtain ⟨og, g1, g2, -, -, -⟩ := o16
      refine wpOp_call_b (f := 13) (args := #[.slice oa nn oc]) ho e4 g1 g2 (by rw [hI.size]; exact Nat.lt_of_lt_of_le (by decide) hs) V16 (by simp [execOp, e3, resolve, invoke, Deferred.ofValue, r13, ev, evf, evc, V16, V17]) ((x18 w hw).mono ?_)
      rintro e W' ⟨⟨xa, xc, XA, XC, rfl, h1⟩, hb6, hs6⟩
      refine ⟨_, rfl, ?_⟩
      rw [e2]
      exact go rfl hb6 hs6 ⟨xa, xc, XA, XC, rfl, h1⟩
    · obtain ⟨o', e1, e2, e3, e4, e5⟩ := o19
      obtain rfl := Option.some.inj (ho.symm.trans e1)
      have dp := dep_of' e5 hdep
      have V16 : a.tmps.getD 61 undef = .bool false := hI.val 16 61 (by decide) rfl (dp 16 (by decide))
      have U1 : a.tmps.getD 1 undef = .pointer (some ⟨bx, 0, none⟩) := (kp 1 (by decide)).trans u1
      obtain ⟨og, g1, g2, -, -, -⟩ := o16
      exact wpOp_value_b (v := .pointer (some ⟨bx, 0, none⟩)) (w' := w) ho e4 g1 g2 (by rw [hI.size]; exact Nat.lt_of_lt_of_le (by decide) hs) V16 (by simp [execOp, e3, ev, evc, V16, U1, x19 w]) (by rw [e2]; exact go rfl (Below.refl _ _) hw rfl)
    · obtain ⟨o', e1, e2, e3, e4, e5⟩ := o20
      obtain rfl := Option.some.inj (ho.symm.trans e1)
      have dp := dep_of' e5 hdep
      have V16 : a.tmps.getD 61 undef = .bool false := hI.val 16 61 (by decide) rfl (dp 16 (by decide))
      have V19 : a.tmps.getD 64 undef = .pointer (some ⟨bx, 0, none⟩) := hI.val 19 64 (by decide) rfl (dp 19 (by decide))
      obtain ⟨og, g1, g2, -, -, -⟩ := o16
      exact wpOp_value_b (v := .slice la nn lc) (w' := w) ho e4 g1 g2 (by rw [hI.size]; exact Nat.lt_of_lt_of_le (by decide) hs) V16 (by simp [execOp, e3, ev, evc, V16, V19, x20 w hw]) (by rw [e2]; exact go rfl (Below.refl _ _) hw rfl)
    · obtain ⟨o', e1, e2, e3, e4, e5⟩ := o21
      obtain rfl := Option.some.inj (ho.symm.trans e1)
      have dp := dep_of' e5 hdep
      have V16 : a.tmps.getD 61 undef = .bool false := hI.val 16 61 (by decide) rfl (dp 16 (by decide))
      obtain ⟨xa18, xc18, XA18, XC18, V18, f18⟩ : ∃ xa xc XA XC, a.tmps.getD 63 undef = .slice xa nn xc ∧ BmAt w xa nn XA XC LL := hI.val 18 63 (by decide) rfl (dp 18 (by decide))
      have V20 : a.tmps.getD 65 undef = .slice la nn lc := hI.val 20 65 (by decide) rfl (dp 20 (by decide))
      obtain ⟨og, g1, g2, -, -, -⟩ := o16
      refine wpOp_call_b (f := 12) (args := #[.slice xa18 nn xc18, .slice la nn lc]) ho e4 g1 g2 (by rw [hI.size]; exact Nat.lt_of_lt_of_le (by decide) hs) V16 (by simp [execOp, e3, resolve, invoke, Deferred.ofValue, r12, ev, evf, evc, V16, V18, V20]) ((x21 w xa18 xc18 XA18 XC18 hw f18).mono ?_)
      rintro e W' ⟨rfl, hb6, hs6⟩
      refine ⟨_, rfl, ?_⟩
      rw [e2]
      exact go rfl hb6 hs6 rfl
    · obtain ⟨o', e1, e2, e3, e4, e5⟩ := o22
      obtain rfl := Option.some.inj (ho.symm.trans e1)
      have dp := dep_of' e5 hdep
      have V16 : a.tmps.getD 61 undef = .bool false := hI.val 16 61 (by decide) rfl (dp 16 (by decide))
      have V21 : a.tmps.getD 66 undef = .bool true := hI.val 21 66 (by decide) rfl (dp 21 (by decide))
      obtain ⟨og, g1, g2, -, -, -⟩ := o16
      exact wpOp_value_b (v := .bool false) (w' := w) ho e4 g1 g2 (by rw [hI.size]; exact Nat.lt_of_lt_of_le (by decide) hs) V16 (by simp [execOp, e3, ev, evc, V16, V21, Op.unary]) (by rw [e2]; exact go rfl (Below.refl _ _) hw rfl)
    · obtain ⟨o', e1, e2, e3, e4, e5⟩ := o23
      obtain rfl := Option.some.inj (ho.symm.trans e1)
      have dp := dep_of' e5 hdep
      have V16 : a.tmps.getD 61 undef = .bool false := hI.val 16 61 (by decide) rfl (dp 16 (by decide))
      have V22 : a.tmps.getD 67 undef = .bool false := hI.val 22 67 (by decide) rfl (dp 22 (by decide))
      exact wpOp_value (v := .bool false) (w' := w) ho e4 (by simp [execOp, e3, ev, evc, V16, V22, asBool]) (by rw [e2]; exact go rfl (Below.refl _ _) hw rfl)
  · intro l a w hall hI
    have all : ∀ j, j < 24 → l j = true := fun j hj => hall j (by rw [hsz]; exact hj)
    exact fin a w hI.size hI.defers hI.kept hI.world.1 (fun i d hi hD => hI.val i d hi hD (all i hi))

def gfD (i : Nat) : Option Nat := match i with | 0 => some 76 | 1 => some 77 | 2 => some 78 | 3 => some 79 | 4 => some 80 | 5 => some 81 | 6 => some 82 | 7 => some 83 | 8 => some 84 | 9 => some 85 | 10 => some 86 | 11 => some 87 | 12 => some 88 | 13 => some 89 | 14 => some 90 | 15 => some 91 | _ => none
theorem gfD_inj : ∀ i, i < 16 → ∀ j, j < 16 → gfD i = gfD j → gfD i ≠ none → i = j := by decide
theorem gfD_lt : ∀ i, i < 16 → ∀ d, gfD i = some d → d < 102 := by
  intro i hi d h
  have : ∀ i, i < 16 → (gfD i).all (fun d => decide (d < 102)) = true := by decide
  have := this i hi
  rw [h] at this
  simpa using this
def gfF (bx nn oc lc kk TN ock lck : Nat) (XO XL YO YL : Addr) (oak lak : Option Addr) (SS Pn f1 : Int) (FF : Bool) (i : Nat) (q : Value) (w : World) : Prop := match i with
  | 0 => q = .slice (some XO) nn oc
  | 1 => q = .int .i64 (kk : Nat)
  | 2 => q = .pointer (some YO)
  | 3 => q = .agg #[.slice oak TN ock, .int .i64 SS, .bool FF]
  | 4 => q = .pointer (some ⟨bx, 5, none⟩)
  | 5 => q = .int .i64 Pn
  | 6 => q = .int .i64 f1
  | 7 => q = .pointer (some ⟨bx, 0, none⟩)
  | 8 => q = .slice (some XL) nn lc
  | 9 => q = .int .i64 (kk : Nat)
  | 10 => q = .pointer (some YL)
  | 11 => q = .agg #[.slice lak TN lck, .int .i64 SS, .bool FF]
  | 12 => q = .pointer (some ⟨bx, 5, none⟩)
  | 13 => q = .int .i64 Pn
  | 14 => q = .int .i64 f1
  | 15 => q = .bool false
  | _ => True
theorem gfF_below {bx nn oc lc kk TN ock lck : Nat} {XO XL YO YL : Addr} {oak lak : Option Addr} {SS Pn f1 : Int} {FF : Bool} {i : Nat} {q : Value} {w w' : World} (h : gfF bx nn oc lc kk TN ock lck XO XL YO YL oak lak SS Pn f1 FF i q w) (hb : Below w.heap.size w w') : gfF bx nn oc lc kk TN ock lck XO XL YO YL oak lak SS Pn f1 FF i q w' := by
  unfold gfF at h ⊢
  split
  · exact h
  · exact h
  · exact h
  · exact h
  · exact h
  · exact h
  · exact h
  · exact h
  · exact h
  · exact h
  · exact h
  · exact h
  · exact h
  · exact h
  · exact h
  · exact h
  · trivial

set_option maxHeartbeats 8000000 in
theorem gf_region {id : Nat} {ops : Array Oper} {Q : Exit → Act → World → Prop} {a0 : Act} {w0 : World} (bx nn oc lc kk TN ock lck : Nat) (XO XL YO YL : Addr) (oak lak : Option Addr) (SS Pn f1 : Int) (FF : Bool) (S : World → Prop) (hlow : lowB ops = true) (hsz : ops.size = 16)
    (o0 : OpIn ops 0 (some 76) (.move (.tmp 3)) none []) (o1 : OpIn ops 1 (some 77) (.move (.tmp 10)) none []) (o2 : OpIn ops 2 (some 78) (.indexAddr 27 (.tmp 76) (.tmp 77)) none [0, 1]) (o3 : OpIn ops 3 (some 79) (.load 40 (.tmp 78)) none [2]) (o4 : OpIn ops 4 (some 80) (.fieldAddr 25 (.tmp 1) 5) none []) (o5 : OpIn ops 5 (some 81) (.load 3 (.tmp 80)) none [4]) (o6 : OpIn ops 6 (some 82) (.call { callee := .value (.func 15), args := #[.tmp 79, .tmp 81], argTypes := #[40, 3] }) none [3, 5]) (o7 : OpIn ops 7 (some 83) (.fieldAddr 25 (.tmp 1) 0) none []) (o8 : OpIn ops 8 (some 84) (.load 22 (.tmp 83)) none [7]) (o9 : OpIn ops 9 (some 85) (.move (.tmp 10)) none []) (o10 : OpIn ops 10 (some 86) (.indexAddr 22 (.tmp 84) (.tmp 85)) none [8, 9]) (o11 : OpIn ops 11 (some 87) (.load 42 (.tmp 86)) none [10]) (o12 : OpIn ops 12 (some 88) (.fieldAddr 25 (.tmp 1) 5) none []) (o13 : OpIn ops 13 (some 89) (.load 3 (.tmp 88)) none [12]) (o14 : OpIn ops 14 (some 90) (.call { callee := .value (.func 16), args := #[.tmp 87, .tmp 89], argTypes := #[42, 3] }) none [11, 13]) (o15 : OpIn ops 15 (some 91) (.binOp .neq 2 (.tmp 82) (.tmp 90) 2) none [6, 14])
    (hS : S w0.drew)
    (x2 : ∀ w, (Instr.indexAt 27 (.slice (some XO) nn oc) (.int .i64 (kk : Nat))).run Try.prog w = .ok (.pointer (some YO)) w)
    (x3 : ∀ w, S w → (Instr.loadAt 40 (.pointer (some YO))).run Try.prog w = .ok (.agg #[.slice oak TN ock, .int .i64 SS, .bool FF]) w)
    (x4 : ∀ w, (Instr.fieldAt 25 (.pointer (some ⟨bx, 0, none⟩)) 5).run Try.prog w = .ok (.pointer (some ⟨bx, 5, none⟩)) w)
    (x5 : ∀ w, S w → (Instr.loadAt 3 (.pointer (some ⟨bx, 5, none⟩))).run Try.prog w = .ok (.int .i64 Pn) w)
    (x6 : ∀ w, S w → Calls Try.prog 15 #[.agg #[.slice oak TN ock, .int .i64 SS, .bool FF], .int .i64 Pn] w fun e w' => e = .returned (.int .i64 f1) ∧ Below w.heap.size w w' ∧ S w')
    (x7 : ∀ w, (Instr.fieldAt 25 (.pointer (some ⟨bx, 0, none⟩)) 0).run Try.prog w = .ok (.pointer (some ⟨bx, 0, none⟩)) w)
    (x8 : ∀ w, S w → (Instr.loadAt 22 (.pointer (some ⟨bx, 0, none⟩))).run Try.prog w = .ok (.slice (some XL) nn lc) w)
    (x10 : ∀ w, (Instr.indexAt 22 (.slice (some XL) nn lc) (.int .i64 (kk : Nat))).run Try.prog w = .ok (.pointer (some YL)) w)
    (x11 : ∀ w, S w → (Instr.loadAt 42 (.pointer (some YL))).run Try.prog w = .ok (.agg #[.slice lak TN lck, .int .i64 SS, .bool FF]) w)
    (x12 : ∀ w, (Instr.fieldAt 25 (.pointer (some ⟨bx, 0, none⟩)) 5).run Try.prog w = .ok (.pointer (some ⟨bx, 5, none⟩)) w)
    (x13 : ∀ w, S w → (Instr.loadAt 3 (.pointer (some ⟨bx, 5, none⟩))).run Try.prog w = .ok (.int .i64 Pn) w)
    (x14 : ∀ w, S w → Calls Try.prog 16 #[.agg #[.slice lak TN lck, .int .i64 SS, .bool FF], .int .i64 Pn] w fun e w' => e = .returned (.int .i64 f1) ∧ Below w.heap.size w w' ∧ S w')
    (x15 : ∀ w, (binOp .neq 2 (.int .i64 f1) (.int .i64 f1)).run Try.prog w = .ok (.bool false) w)
    (u1 : a0.tmps.getD 1 undef = .pointer (some ⟨bx, 0, none⟩))
    (u3 : a0.tmps.getD 3 undef = .slice (some XO) nn oc)
    (u10 : a0.tmps.getD 10 undef = .int .i64 (kk : Nat))
    (hs : 102 ≤ a0.tmps.size)
    (fin : ∀ a w, a.tmps.size = a0.tmps.size → a.defers = a0.defers → (∀ s, (∀ i, i < 16 → gfD i ≠ some s) → a.tmps.getD s undef = a0.tmps.getD s undef) → S w → (∀ i d, i < 16 → gfD i = some d → gfF bx nn oc lc kk TN ock lck XO XL YO YL oak lak SS Pn f1 FF i (a.tmps.getD d undef) w) → Q .normal a w) : (Code.region id ops true).wp Try.prog Q a0 w0 := by
  have r15 : ∀ args w, (callFunc 15 args).run Try.prog w = .ok (.enter 15 args) w := enters_of Try.func15 (by kernel_rfl) rfl
  have r16 : ∀ args w, (callFunc 16 args).run Try.prog w = .ok (.enter 16 args) w := enters_of Try.func16 (by kernel_rfl) rfl
  refine wp_region_inv2 (by kernel_rfl) hlow (Inv 16 gfD a0 (fun l a w => S w ∧ Kept2 16 gfD a0 l a) (fun _ => gfF bx nn oc lc kk TN ock lck XO XL YO YL oak lak SS Pn f1 FF)) (Inv.start ⟨hS, kept2_start _ _ _⟩) ?_ ?_
  · intro l i o a w ho hl hcl hdep hI
    have hi : i < 16 := by rw [← hsz]; exact (Array.getElem?_eq_some_iff.1 ho).1
    have ev : ∀ (s : Nat), a.eval (.tmp s) = a.tmps.getD s undef := fun _ => rfl
    have evf : ∀ f, a.eval (.func f) = .func (.func f) #[] #[] := fun _ => rfl
    have evc : ∀ c : Value, a.eval (.const c) = c := fun _ => rfl
    have inj : ∀ d, gfD i = some d → ∀ j d', j < 16 → gfD j = some d' → j ≠ i → d' ≠ d := fun d hd j d' hj hd' hne e => hne (gfD_inj j hj i hi (by rw [hd', hd, e]) (by rw [hd']; simp))
    have kp : ∀ s, (∀ i, i < 16 → gfD i ≠ some s) → a.tmps.getD s undef = a0.tmps.getD s undef := hI.kept
    have hw : S w := hI.world.1
    have k2 := hI.world.2
    have ex0 := hI.world.2
    have go : ∀ {d : Nat} {v : Value} {w' : World}, gfD i = some d → Below w.heap.size w w' → S w' → gfF bx nn oc lc kk TN ock lck XO XL YO YL oak lak SS Pn f1 FF i v w' → Inv 16 gfD a0 (fun l a w => S w ∧ Kept2 16 gfD a0 l a) (fun _ => gfF bx nn oc lc kk TN ock lck XO XL YO YL oak lak SS Pn f1 FF) (fun j => l j || j == i) (a.put (some d) v) w' := by
      intro d v w' hD hb hS' hF
      exact hI.put hi hD (Nat.lt_of_lt_of_le (gfD_lt i hi d hD) hs) (inj d hD) ⟨hS', k2.put hD (by rw [hI.size]; exact Nat.lt_of_lt_of_le (gfD_lt i hi d hD) hs) hi⟩ hF (fun j u _ _ _ hf => gfF_below hf hb)
    rcases (show i = 0 ∨ i = 1 ∨ i = 2 ∨ i = 3 ∨ i = 4 ∨ i = 5 ∨ i = 6 ∨ i = 7 ∨ i = 8 ∨ i = 9 ∨ i = 10 ∨ i = 11 ∨ i = 12 ∨ i = 13 ∨ i = 14 ∨ i = 15 by omega) with rfl | rfl | rfl | rfl | rfl | rfl | rfl | rfl | rfl | rfl | rfl | rfl | rfl | rfl | rfl | rfl
    · obtain ⟨o', e1, e2, e3, e4, e5⟩ := o0
      obtain rfl := Option.some.inj (ho.symm.trans e1)
      have dp := dep_of' e5 hdep
      have U3 : a.tmps.getD 3 undef = .slice (some XO) nn oc := (kp 3 (by decide)).trans u3
      exact wpOp_value (v := .slice (some XO) nn oc) (w' := w) ho e4 (by simp [execOp, e3, ev, evc, U3]) (by rw [e2]; exact go rfl (Below.refl _ _) hw rfl)
    · obtain ⟨o', e1, e2, e3, e4, e5⟩ := o1
      obtain rfl := Option.some.inj (ho.symm.trans e1)
      have dp := dep_of' e5 hdep
      have U10 : a.tmps.getD 10 undef = .int .i64 (kk : Nat) := (kp 10 (by decide)).trans u10
      exact wpOp_value (v := .int .i64 (kk : Nat)) (w' := w) ho e4 (by simp [execOp, e3, ev, evc, U10]) (by rw [e2]; exact go rfl (Below.refl _ _) hw rfl)
    · obtain ⟨o', e1, e2, e3, e4, e5⟩ := o2
      obtain rfl := Option.some.inj (ho.symm.trans e1)
      have dp := dep_of' e5 hdep
      have V0 : a.tmps.getD 76 undef = .slice (some XO) nn oc := hI.val 0 76 (by decide) rfl (dp 0 (by decide))
      have V1 : a.tmps.getD 77 undef = .int .i64 (kk : Nat) := hI.val 1 77 (by decide) rfl (dp 1 (by decide))
      exact wpOp_value (v := .pointer (some YO)) (w' := w) ho e4 (by simp [execOp, e3, ev, evc, V0, V1, x2 w]) (by rw [e2]; exact go rfl (Below.refl _ _) hw rfl)
    · obtain ⟨o', e1, e2, e3, e4, e5⟩ := o3
      obtain rfl := Option.some.inj (ho.symm.trans e1)
      have dp := dep_of' e5 hdep
      have V2 : a.tmps.getD 78 undef = .pointer (some YO) := hI.val 2 78 (by decide) rfl (dp 2 (by decide))
      exact wpOp_value (v := .agg #[.slice oak TN ock, .int .i64 SS, .bool FF]) (w' := w) ho e4 (by simp [execOp, e3, ev, evc, V2, x3 w hw]) (by rw [e2]; exact go rfl (Below.refl _ _) hw rfl)
    · obtain ⟨o', e1, e2, e3, e4, e5⟩ := o4
      obtain rfl := Option.some.inj (ho.symm.trans e1)
      have dp := dep_of' e5 hdep
      have U1 : a.tmps.getD 1 undef = .pointer (some ⟨bx, 0, none⟩) := (kp 1 (by decide)).trans u1
      exact wpOp_value (v := .pointer (some ⟨bx, 5, none⟩)) (w' := w) ho e4 (by simp [execOp, e3, ev, evc, U1, x4 w]) (by rw [e2]; exact go rfl (Below.refl _ _) hw rfl)
    · obtain ⟨o', e1, e2, e3, e4, e5⟩ := o5
      obtain rfl := Option.some.inj (ho.symm.trans e1)
      have dp := dep_of' e5 hdep
      have V4 : a.tmps.getD 80 undef = .pointer (some ⟨bx, 5, none⟩) := hI.val 4 80 (by decide) rfl (dp 4 (by decide))
      exact wpOp_value (v := .int .i64 Pn) (w' := w) ho e4 (by simp [execOp, e3, ev, evc, V4, x5 w hw]) (by rw [e2]; exact go rfl (Below.refl _ _) hw rfl)
    · obtain ⟨o', e1, e2, e3, e4, e5⟩ := o6
      obtain rfl := Option.some.inj (ho.symm.trans e1)
      have dp := dep_of' e5 hdep
      have V3 : a.tmps.getD 79 undef = .agg #[.slice oak TN ock, .int .i64 SS, .bool FF] := hI.val 3 79 (by decide) rfl (dp 3 (by decide))
      have V5 : a.tmps.getD 81 undef = .int .i64 Pn := hI.val 5 81 (by decide) rfl (dp 5 (by decide))
      refine wpOp_call (f := 15) (args := #[.agg #[.slice oak TN ock, .int .i64 SS, .bool FF], .int .i64 Pn]) ho e4 (by simp [execOp, e3, resolve, invoke, Deferred.ofValue, r15, ev, evf, evc, V3, V5]) ((x6 w hw).mono ?_)
      rintro e W' ⟨rfl, hb6, hs6⟩
      refine ⟨_, rfl, ?_⟩
      rw [e2]
      exact go rfl hb6 hs6 rfl
    · obtain ⟨o', e1, e2, e3, e4, e5⟩ := o7
      obtain rfl := Option.some.inj (ho.symm.trans e1)
      have dp := dep_of' e5 hdep
      have U1 : a.tmps.getD 1 undef = .pointer (some ⟨bx, 0, none⟩) := (kp 1 (by decide)).trans u1
      exact wpOp_value (v := .pointer (some ⟨bx, 0, none⟩)) (w' := w) ho e4 (by simp [execOp, e3, ev, evc, U1, x7 w]) (by rw [e2]; exact go rfl (Below.refl _ _) hw rfl)
    · obtain ⟨o', e1, e2, e3, e4, e5⟩ := o8
      obtain rfl := Option.some.inj (ho.symm.trans e1)
      have dp := dep_of' e5 hdep
      have V7 : a.tmps.getD 83 undef = .pointer (some ⟨bx, 0, none⟩) := hI.val 7 83 (by decide) rfl (dp 7 (by decide))
      exact wpOp_value (v := .slice (some XL) nn lc) (w' := w) ho e4 (by simp [execOp, e3, ev, evc, V7, x8 w hw]) (by rw [e2]; exact go rfl (Below.refl _ _) hw rfl)
    · obtain ⟨o', e1, e2, e3, e4, e5⟩ := o9
      obtain rfl := Option.some.inj (ho.symm.trans e1)
      have dp := dep_of' e5 hdep
      have U10 : a.tmps.getD 10 undef = .int .i64 (kk : Nat) := (kp 10 (by decide)).trans u10
      exact wpOp_value (v := .int .i64 (kk : Nat)) (w' := w) ho e4 (by simp [execOp, e3, ev, evc, U10]) (by rw [e2]; exact go rfl (Below.refl _ _) hw rfl)
    · obtain ⟨o', e1, e2, e3, e4, e5⟩ := o10
      obtain rfl := Option.some.inj (ho.symm.trans e1)
      have dp := dep_of' e5 hdep
      have V8 : a.tmps.getD 84 undef = .slice (some XL) nn lc := hI.val 8 84 (by decide) rfl (dp 8 (by decide))
      have V9 : a.tmps.getD 85 undef = .int .i64 (kk : Nat) := hI.val 9 85 (by decide) rfl (dp 9 (by decide))
      exact wpOp_value (v := .pointer (some YL)) (w' := w) ho e4 (by simp [execOp, e3, ev, evc, V8, V9, x10 w]) (by rw [e2]; exact go rfl (Below.refl _ _) hw rfl)
    · obtain ⟨o', e1, e2, e3, e4, e5⟩ := o11
      obtain rfl := Option.some.inj (ho.symm.trans e1)
      have dp := dep_of' e5 hdep
      have V10 : a.tmps.getD 86 undef = .pointer (some YL) := hI.val 10 86 (by decide) rfl (dp 10 (by decide))
      exact wpOp_value (v := .agg #[.slice lak TN lck, .int .i64 SS, .bool FF]) (w' := w) ho e4 (by simp [execOp, e3, ev, evc, V10, x11 w hw]) (by rw [e2]; exact go rfl (Below.refl _ _) hw rfl)
    · obtain ⟨o', e1, e2, e3, e4, e5⟩ := o12
      obtain rfl := Option.some.inj (ho.symm.trans e1)
      have dp := dep_of' e5 hdep
      have U1 : a.tmps.getD 1 undef = .pointer (some ⟨bx, 0, none⟩) := (kp 1 (by decide)).trans u1
      exact wpOp_value (v := .pointer (some ⟨bx, 5, none⟩)) (w' := w) ho e4 (by simp [execOp, e3, ev, evc, U1, x12 w]) (by rw [e2]; exact go rfl (Below.refl _ _) hw rfl)
    · obtain ⟨o', e1, e2, e3, e4, e5⟩ := o13
      obtain rfl := Option.some.inj (ho.symm.trans e1)
      have dp := dep_of' e5 hdep
      have V12 : a.tmps.getD 88 undef = .pointer (some ⟨bx, 5, none⟩) := hI.val 12 88 (by decide) rfl (dp 12 (by decide))
      exact wpOp_value (v := .int .i64 Pn) (w' := w) ho e4 (by simp [execOp, e3, ev, evc, V12, x13 w hw]) (by rw [e2]; exact go rfl (Below.refl _ _) hw rfl)
    · obtain ⟨o', e1, e2, e3, e4, e5⟩ := o14
      obtain rfl := Option.some.inj (ho.symm.trans e1)
      have dp := dep_of' e5 hdep
      have V11 : a.tmps.getD 87 undef = .agg #[.slice lak TN lck, .int .i64 SS, .bool FF] := hI.val 11 87 (by decide) rfl (dp 11 (by decide))
      have V13 : a.tmps.getD 89 undef = .int .i64 Pn := hI.val 13 89 (by decide) rfl (dp 13 (by decide))
      refine wpOp_call (f := 16) (args := #[.agg #[.slice lak TN lck, .int .i64 SS, .bool FF], .int .i64 Pn]) ho e4 (by simp [execOp, e3, resolve, invoke, Deferred.ofValue, r16, ev, evf, evc, V11, V13]) ((x14 w hw).mono ?_)
      rintro e W' ⟨rfl, hb6, hs6⟩
      refine ⟨_, rfl, ?_⟩
      rw [e2]
      exact go rfl hb6 hs6 rfl
    · obtain ⟨o', e1, e2, e3, e4, e5⟩ := o15
      obtain rfl := Option.some.inj (ho.symm.trans e1)
      have dp := dep_of' e5 hdep
      have V6 : a.tmps.getD 82 undef = .int .i64 f1 := hI.val 6 82 (by decide) rfl (dp 6 (by decide))
      have V14 : a.tmps.getD 90 undef = .int .i64 f1 := hI.val 14 90 (by decide) rfl (dp 14 (by decide))
      exact wpOp_value (v := .bool false) (w' := w) ho e4 (by simp [execOp, e3, ev, evc, V6, V14, x15 w, eqGuard]) (by rw [e2]; exact go rfl (Below.refl _ _) hw rfl)
  · intro l a w hall hI
    have all : ∀ j, j < 16 → l j = true := fun j hj => hall j (by rw [hsz]; exact hj)
    exact fin a w hI.size hI.defers hI.kept hI.world.1 (fun i d hi hD => hI.val i d hi hD (all i hi))

def gbD (i : Nat) : Option Nat := match i with | 0 => some 92 | 1 => some 93 | 2 => some 94 | 3 => some 95 | 4 => some 96 | 5 => some 97 | 6 => some 98 | 7 => some 99 | 8 => some 100 | 9 => some 101 | 10 => some 2 | _ => none
theorem gbD_inj : ∀ i, i < 11 → ∀ j, j < 11 → gbD i = gbD j → gbD i ≠ none → i = j := by decide
theorem gbD_lt : ∀ i, i < 11 → ∀ d, gbD i = some d → d < 102 := by
  intro i hi d h
  have : ∀ i, i < 11 → (gbD i).all (fun d => decide (d < 102)) = true := by decide
  have := this i hi
  rw [h] at this
  simpa using this
def gbF (bx nn oc lc : Nat) (oa la : Option Addr) (Pn bb : Int) (i : Nat) (q : Value) (w : World) : Prop := match i with
  | 0 => q = .slice oa nn oc
  | 1 => q = .pointer (some ⟨bx, 5, none⟩)
  | 2 => q = .int .i64 Pn
  | 3 => q = .int .i64 bb
  | 4 => q = .pointer (some ⟨bx, 0, none⟩)
  | 5 => q = .slice la nn lc
  | 6 => q = .pointer (some ⟨bx, 5, none⟩)
  | 7 => q = .int .i64 Pn
  | 8 => q = .int .i64 bb
  | 9 => q = .bool true
  | 10 => q = .bool true
  | _ => True
theorem gbF_below {bx nn oc lc : Nat} {oa la : Option Addr} {Pn bb : Int} {i : Nat} {q : Value} {w w' : World} (h : gbF bx nn oc lc oa la Pn bb i q w) (hb : Below w.heap.size w w') : gbF bx nn oc lc oa la Pn bb i q w' := by
  unfold gbF at h ⊢
  split
  · exact h
  · exact h
  · exact h
  · exact h
  · exact h
  · exact h
  · exact h
  · exact h
  · exact h
  · exact h
  · exact h
  · trivial

set_option maxHeartbeats 8000000 in
theorem gb_region {id : Nat} {ops : Array Oper} {Q : Exit → Act → World → Prop} {a0 : Act} {w0 : World} (bx nn oc lc : Nat) (oa la : Option Addr) (Pn bb : Int) (S : World → Prop) (hlow : lowB ops = true) (hsz : ops.size = 11)
    (o0 : OpIn ops 0 (some 92) (.move (.tmp 3)) none []) (o1 : OpIn ops 1 (some 93) (.fieldAddr 25 (.tmp 1) 5) none []) (o2 : OpIn ops 2 (some 94) (.load 3 (.tmp 93)) none [1]) (o3 : OpIn ops 3 (some 95) (.call { callee := .value (.func 17), args := #[.tmp 92, .tmp 94], argTypes := #[27, 3] }) none [0, 2]) (o4 : OpIn ops 4 (some 96) (.fieldAddr 25 (.tmp 1) 0) none []) (o5 : OpIn ops 5 (some 97) (.load 22 (.tmp 96)) none [4]) (o6 : OpIn ops 6 (some 98) (.fieldAddr 25 (.tmp 1) 5) none []) (o7 : OpIn ops 7 (some 99) (.load 3 (.tmp 98)) none [6]) (o8 : OpIn ops 8 (some 100) (.call { callee := .value (.func 18), args := #[.tmp 97, .tmp 99], argTypes := #[22, 3] }) none [5, 7]) (o9 : OpIn ops 9 (some 101) (.binOp .eql 3 (.tmp 95) (.tmp 100) 3) none [3, 8]) (o10 : OpIn ops 10 (some 2) (.assign (.tmp 101)) none [9])
    (hS : S w0.drew)
    (x1 : ∀ w, (Instr.fieldAt 25 (.pointer (some ⟨bx, 0, none⟩)) 5).run Try.prog w = .ok (.pointer (some ⟨bx, 5, none⟩)) w)
    (x2 : ∀ w, S w → (Instr.loadAt 3 (.pointer (some ⟨bx, 5, none⟩))).run Try.prog w = .ok (.int .i64 Pn) w)
    (x3 : ∀ w, S w → Calls Try.prog 17 #[.slice oa nn oc, .int .i64 Pn] w fun e w' => e = .returned (.int .i64 bb) ∧ Below w.heap.size w w' ∧ S w')
    (x4 : ∀ w, (Instr.fieldAt 25 (.pointer (some ⟨bx, 0, none⟩)) 0).run Try.prog w = .ok (.pointer (some ⟨bx, 0, none⟩)) w)
    (x5 : ∀ w, S w → (Instr.loadAt 22 (.pointer (some ⟨bx, 0, none⟩))).run Try.prog w = .ok (.slice la nn lc) w)
    (x6 : ∀ w, (Instr.fieldAt 25 (.pointer (some ⟨bx, 0, none⟩)) 5).run Try.prog w = .ok (.pointer (some ⟨bx, 5, none⟩)) w)
    (x7 : ∀ w, S w → (Instr.loadAt 3 (.pointer (some ⟨bx, 5, none⟩))).run Try.prog w = .ok (.int .i64 Pn) w)
    (x8 : ∀ w, S w → Calls Try.prog 18 #[.slice la nn lc, .int .i64 Pn] w fun e w' => e = .returned (.int .i64 bb) ∧ Below w.heap.size w w' ∧ S w')
    (x9 : ∀ w, (binOp .eql 3 (.int .i64 bb) (.int .i64 bb)).run Try.prog w = .ok (.bool true) w)
    (u1 : a0.tmps.getD 1 undef = .pointer (some ⟨bx, 0, none⟩))
    (u3 : a0.tmps.getD 3 undef = .slice oa nn oc)
    (hs : 102 ≤ a0.tmps.size)
    (fin : ∀ a w, a.tmps.size = a0.tmps.size → a.defers = a0.defers → (∀ s, (∀ i, i < 11 → gbD i ≠ some s) → a.tmps.getD s undef = a0.tmps.getD s undef) → S w → (∀ i d, i < 11 → gbD i = some d → gbF bx nn oc lc oa la Pn bb i (a.tmps.getD d undef) w) → Q .normal a w) : (Code.region id ops true).wp Try.prog Q a0 w0 := by
  have r17 : ∀ args w, (callFunc 17 args).run Try.prog w = .ok (.enter 17 args) w := enters_of Try.func17 (by kernel_rfl) rfl
  have r18 : ∀ args w, (callFunc 18 args).run Try.prog w = .ok (.enter 18 args) w := enters_of Try.func18 (by kernel_rfl) rfl
  refine wp_region_inv2 (by kernel_rfl) hlow (Inv 11 gbD a0 (fun l a w => S w ∧ Kept2 11 gbD a0 l a) (fun _ => gbF bx nn oc lc oa la Pn bb)) (Inv.start ⟨hS, kept2_start _ _ _⟩) ?_ ?_
  · intro l i o a w ho hl hcl hdep hI
    have hi : i < 11 := by rw [← hsz]; exact (Array.getElem?_eq_some_iff.1 ho).1
    have ev : ∀ (s : Nat), a.eval (.tmp s) = a.tmps.getD s undef := fun _ => rfl
    have evf : ∀ f, a.eval (.func f) = .func (.func f) #[] #[] := fun _ => rfl
    have evc : ∀ c : Value, a.eval (.const c) = c := fun _ => rfl
    have inj : ∀ d, gbD i = some d → ∀ j d', j < 11 → gbD j = some d' → j ≠ i → d' ≠ d := fun d hd j d' hj hd' hne e => hne (gbD_inj j hj i hi (by rw [hd', hd, e]) (by rw [hd']; simp))
    have kp : ∀ s, (∀ i, i < 11 → gbD i ≠ some s) → a.tmps.getD s undef = a0.tmps.getD s undef := hI.kept
    have hw : S w := hI.world.1
    have k2 := hI.world.2
    have ex0 := hI.world.2
    have go : ∀ {d : Nat} {v : Value} {w' : World}, gbD i = some d → Below w.heap.size w w' → S w' → gbF bx nn oc lc oa la Pn bb i v w' → Inv 11 gbD a0 (fun l a w => S w ∧ Kept2 11 gbD a0 l a) (fun _ => gbF bx nn oc lc oa la Pn bb) (fun j => l j || j == i) (a.put (some d) v) w' := by
      intro d v w' hD hb hS' hF
      exact hI.put hi hD (Nat.lt_of_lt_of_le (gbD_lt i hi d hD) hs) (inj d hD) ⟨hS', k2.put hD (by rw [hI.size]; exact Nat.lt_of_lt_of_le (gbD_lt i hi d hD) hs) hi⟩ hF (fun j u _ _ _ hf => gbF_below hf hb)
    rcases (show i = 0 ∨ i = 1 ∨ i = 2 ∨ i = 3 ∨ i = 4 ∨ i = 5 ∨ i = 6 ∨ i = 7 ∨ i = 8 ∨ i = 9 ∨ i = 10 by omega) with rfl | rfl | rfl | rfl | rfl | rfl | rfl | rfl | rfl | rfl | rfl
    · obtain ⟨o', e1, e2, e3, e4, e5⟩ := o0
      obtain rfl := Option.some.inj (ho.symm.trans e1)
      have dp := dep_of' e5 hdep
      have U3 : a.tmps.getD 3 undef = .slice oa nn oc := (kp 3 (by decide)).trans u3
      exact wpOp_value (v := .slice oa nn oc) (w' := w) ho e4 (by simp [execOp, e3, ev, evc, U3]) (by rw [e2]; exact go rfl (Below.refl _ _) hw rfl)
    · obtain ⟨o', e1, e2, e3, e4, e5⟩ := o1
      obtain rfl := Option.some.inj (ho.symm.trans e1)
      have dp := dep_of' e5 hdep
      have U1 : a.tmps.getD 1 undef = .pointer (some ⟨bx, 0, none⟩) := (kp 1 (by decide)).trans u1
      exact wpOp_value (v := .pointer (some ⟨bx, 5, none⟩)) (w' := w) ho e4 (by simp [execOp, e3, ev, evc, U1, x1 w]) (by rw [e2]; exact go rfl (Below.refl _ _) hw rfl)
    · obtain ⟨o', e1, e2, e3, e4, e5⟩ := o2
      obtain rfl := Option.some.inj (ho.symm.trans e1)
      have dp := dep_of' e5 hdep
      have V1 : a.tmps.getD 93 undef = .pointer (some ⟨bx, 5, none⟩) := hI.val 1 93 (by decide) rfl (dp 1 (by decide))
      exact wpOp_value (v := .int .i64 Pn) (w' := w) ho e4 (by simp [execOp, e3, ev, evc, V1, x2 w hw]) (by rw [e2]; exact go rfl (Below.refl _ _) hw rfl)
    · obtain ⟨o', e1, e2, e3, e4, e5⟩ := o3
      obtain rfl := Option.some.inj (ho.symm.trans e1)
      have dp := dep_of' e5 hdep
      have V0 : a.tmps.getD 92 undef = .slice oa nn oc := hI.val 0 92 (by decide) rfl (dp 0 (by decide))
      have V2 : a.tmps.getD 94 undef = .int .i64 Pn := hI.val 2 94 (by decide) rfl (dp 2 (by decide))
      refine wpOp_call (f := 17) (args := #[.slice oa nn oc, .int .i64 Pn]) ho e4 (by simp [execOp, e3, resolve, invoke, Deferred.ofValue, r17, ev, evf, evc, V0, V2]) ((x3 w hw).mono ?_)
      rintro e W' ⟨rfl, hb6, hs6⟩
      refine ⟨_, rfl, ?_⟩
      rw [e2]
      exact go rfl hb6 hs6 rfl
    · obtain ⟨o', e1, e2, e3, e4, e5⟩ := o4
      obtain rfl := Option.some.inj (ho.symm.trans e1)
      have dp := dep_of' e5 hdep
      have U1 : a.tmps.getD 1 undef = .pointer (some ⟨bx, 0, none⟩) := (kp 1 (by decide)).trans u1
      exact wpOp_value (v := .pointer (some ⟨bx, 0, none⟩)) (w' := w) ho e4 (by simp [execOp, e3, ev, evc, U1, x4 w]) (by rw [e2]; exact go rfl (Below.refl _ _) hw rfl)
    · obtain ⟨o', e1, e2, e3, e4, e5⟩ := o5
      obtain rfl := Option.some.inj (ho.symm.trans e1)
      have dp := dep_of' e5 hdep
      have V4 : a.tmps.getD 96 undef = .pointer (some ⟨bx, 0, none⟩) := hI.val 4 96 (by decide) rfl (dp 4 (by decide))
      exact wpOp_value (v := .slice la nn lc) (w' := w) ho e4 (by simp [execOp, e3, ev, evc, V4, x5 w hw]) (by rw [e2]; exact go rfl (Below.refl _ _) hw rfl)
    · obtain ⟨o', e1, e2, e3, e4, e5⟩ := o6
      obtain rfl := Option.some.inj (ho.symm.trans e1)
      have dp := dep_of' e5 hdep
      have U1 : a.tmps.getD 1 undef = .pointer (some ⟨bx, 0, none⟩) := (kp 1 (by decide)).trans u1
      exact wpOp_value (v := .pointer (some ⟨bx, 5, none⟩)) (w' := w) ho e4 (by simp [execOp, e3, ev, evc, U1, x6 w]) (by rw [e2]; exact go rfl (Below.refl _ _) hw rfl)
    · obtain ⟨o', e1, e2, e3, e4, e5⟩ := o7
      obtain rfl := Option.some.inj (ho.symm.trans e1)
      have dp := dep_of' e5 hdep
      have V6 : a.tmps.getD 98 undef = .pointer (some ⟨bx, 5, none⟩) := hI.val 6 98 (by decide) rfl (dp 6 (by decide))
      exact wpOp_value (v := .int .i64 Pn) (w' := w) ho e4 (by simp [execOp, e3, ev, evc, V6, x7 w hw]) (by rw [e2]; exact go rfl (Below.refl _ _) hw rfl)
    · obtain ⟨o', e1, e2, e3, e4, e5⟩ := o8
      obtain rfl := Option.some.inj (ho.symm.trans e1)
      have dp := dep_of' e5 hdep
      have V5 : a.tmps.getD 97 undef = .slice la nn lc := hI.val 5 97 (by decide) rfl (dp 5 (by decide))
      have V7 : a.tmps.getD 99 undef = .int .i64 Pn := hI.val 7 99 (by decide) rfl (dp 7 (by decide))
      refine wpOp_call (f := 18) (args := #[.slice la nn lc, .int .i64 Pn]) ho e4 (by simp [execOp, e3, resolve, invoke, Deferred.ofValue, r18, ev, evf, evc, V5, V7]) ((x8 w hw).mono ?_)
      rintro e W' ⟨rfl, hb6, hs6⟩
      refine ⟨_, rfl, ?_⟩
      rw [e2]
      exact go rfl hb6 hs6 rfl
    · obtain ⟨o', e1, e2, e3, e4, e5⟩ := o9
      obtain rfl := Option.some.inj (ho.symm.trans e1)
      have dp := dep_of' e5 hdep
      have V3 : a.tmps.getD 95 undef = .int .i64 bb := hI.val 3 95 (by decide) rfl (dp 3 (by decide))
      have V8 : a.tmps.getD 100 undef = .int .i64 bb := hI.val 8 100 (by decide) rfl (dp 8 (by decide))
      exact wpOp_value (v := .bool true) (w' := w) ho e4 (by simp [execOp, e3, ev, evc, V3, V8, x9 w, eqGuard]) (by rw [e2]; exact go rfl (Below.refl _ _) hw rfl)
    · obtain ⟨o', e1, e2, e3, e4, e5⟩ := o10
      obtain rfl := Option.some.inj (ho.symm.trans e1)
      have dp := dep_of' e5 hdep
      have V9 : a.tmps.getD 101 undef = .bool true := hI.val 9 101 (by decide) rfl (dp 9 (by decide))
      exact wpOp_value (v := .bool true) (w' := w) ho e4 (by simp [execOp, e3, ev, evc, V9]) (by rw [e2]; exact go rfl (Below.refl _ _) hw rfl)
  · intro l a w hall hI
    have all : ∀ j, j < 11 → l j = true := fun j hj => hall j (by rw [hsz]; exact hj)
    exact fin a w hI.size hI.defers hI.kept hI.world.1 (fun i d hi hD => hI.val i d hi hD (all i hi))

end Go.Proofs.Yteeljnibglnflaa
