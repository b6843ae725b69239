/- The document's New. -/
import Derived.Test.YtkjmlbllpnehlaaRows
import Derived.Test.YtkjmlbllpnehlaaView
import Derived.Test.YtkjmlbllpnehlaaOwn
import Derived.Test.YtkjmlbllpnehlaaBase
import Derived.Test.YtkjmlbllpnehlaaGxRt
import Derived.Test.YtkjmlbllpnehlaaFkZ
import Derived.Test.YtkjmlbllpnehlaaFkBy
import Derived.Test.YtkjmlbllpnehlaaFkAt
import Derived.Test.YtkjmlbllpnehlaaFkRd
import Derived.Test.YtkjmlbllpnehlaaRfAt
import Derived.Test.YtkjmlbllpnehlaaFkNew
import Derived.WalkKit
import Derived.ProofKit
import Derived.OpenShut
import Derived.Below
import Derived.WalkLawsBesides
import Derived.Deep.QuietTactic
import Derived.BigQuiet
import Derived.Laws.MakeOwn
import Derived.OwnWalk
import Derived.ArgAppend
namespace Go.Proofs.Ytkjmlbllpnehlaa
set_option maxRecDepth 20000
open Go.ChangeShapes Go.WideShapes Go.ChangeAt Go.RowKit
set_option linter.unusedVariables false
set_option linter.unusedSimpArgs false

def okTo (zs : List Int) (k : Nat) : Bool := decide (1 ≤ zs.length) && decide (zs.length ≤ 4) && !(zs.take k).any noW
theorem okTo_all (zs : List Int) : okTo zs zs.length = okW zs := by unfold okTo okW; rw [List.take_length]
theorem okTo_no {zs : List Int} {k : Nat} (h : okTo zs k = false) : okW zs = false := by
  cases hw : okW zs with
  | false => rfl
  | true =>
    unfold okTo at h
    simp only [okW, Bool.and_eq_true, Bool.not_eq_true', List.any_eq_false] at hw
    rw [hw.1.1, hw.1.2, show (zs.take k).any noW = false from List.any_eq_false.2 fun x hx => hw.2 x (List.mem_of_mem_take hx)] at h
    cases h
theorem okTo_succ (zs : List Int) (k : Nat) (hk : k < zs.length) : okTo zs (k + 1) = (okTo zs k && !noW (zs.getD k 0)) := by
  unfold okTo
  rw [← List.take_append_getElem hk, List.any_append, show zs.getD k 0 = zs[k] by simp [List.getD, hk]]
  simp [Bool.and_assoc]

theorem info3' : ∃ i, Try.prog.info? 3 = some i ∧ i.zero = some (.int .i64 0) ∧ i.size = 1 ∧ i.bytes = 8 := by
  obtain ⟨i, hi, hz⟩ := Option.map_eq_some_iff.1 info3
  simp only [Prod.mk.injEq] at hz
  exact ⟨i, hi, hz.1, hz.2.1, hz.2.2⟩
/-- a row of the call's own that holds these numbers -/
def NewR (B : Nat) (n : Nat) (zs : List Int) (v : Value) (u : World) : Prop := ∃ g c, v = .slice (some ⟨g, 0, none⟩) n c ∧ B ≤ g ∧ (∃ m, Row 3 u g m) ∧ ∀ i, i < n → u.cell? ⟨g, i, none⟩ = some (.int .i64 (zs.getD i 0))
theorem NewR.below {B n : Nat} {zs : List Int} {v : Value} {u u' : World} (h : NewR B n zs v u) (hb : Below u.heap.size u u') : NewR B n zs v u' := by
  obtain ⟨g, c, h1, h2, ⟨m, h3⟩, h4⟩ := h
  have e := hb.block g h3.lt
  exact ⟨g, c, h1, h2, ⟨m, h3.of_block e⟩, fun i hi => (cell_of_block e i).trans (h4 i hi)⟩
theorem copy_new {w : World} (q : Addr) {x : Addr} {n c : Nat} {zs : List Int} (h : Reads .i64 w (some x) n zs) (h1 : 1 ≤ n) (h2 : n ≤ 1000000) (ty : TypeId) :
    ∃ v w', (Builtin.append_ #[22, 22] ty #[.slice (some q) 0 0, .slice (some x) n c]).run Try.prog w = .ok v w' ∧ NewR w.heap.size n zs v w' ∧ Below w.heap.size w w' := by
  obtain ⟨i0, hi, hz0, hz1, hz2⟩ := info3'
  obtain ⟨v, w', hr, ho, hg⟩ := run_append_arg_grows (P := Try.prog) (w := w) 22 ty 3 i0 _ 1 8 Try.underlying22 hi hz0 hz1 hz2 rfl (by decide) q 0 0 [] rfl (fun j u hj => by cases hj) x n c (zs.map (Value.int .i64)) (by rw [List.length_map, h.len, Nat.mul_one]) (fun j u hj => by
    have hj' : j < n := by have := (List.getElem?_eq_some_iff.1 hj).1; rw [List.length_map, h.len] at this; exact this
    rw [h.cell x rfl j hj', ← hj, ints_at _ _ (by rw [h.len]; exact hj')]) (by omega) (by unfold maxLen; omega) (by omega)
  rw [Nat.zero_add, List.nil_append] at ho
  have hb := (Below.refl w.heap.size w).grown hg (Nat.le_refl _) (fun k e => by cases e)
  refine ⟨v, w', hr, ?_, hb⟩
  rcases ho.2 with ⟨e1, e2⟩ | ⟨g, cap, cur, e1, e2, e3, e4, e5, e6, e7⟩
  · omega
  · subst e1
    refine ⟨g, cap, rfl, e2, ⟨_, cur, e3, rfl⟩, fun i hi => ?_⟩
    rw [ho.cellAt i (by omega), ints_at _ _ (by rw [h.len]; exact hi)]
theorem make_new (n : Nat) (hn : n ≤ 1000000) (w : World) : ∃ v w', (Instr.makeSlice 22 (.int .i64 (n : Int)) (.int .i64 (n : Int))).run Try.prog w = .ok v w' ∧ NewR w.heap.size n [] v w' ∧ Below w.heap.size w w' := by
  obtain ⟨i0, hi, hz0, hz1, hz2⟩ := info3'
  obtain ⟨w', hr, ho, hg⟩ := run_make_full (P := Try.prog) w w.heap.size 22 3 i0 _ 1 Try.underlying22 hi hz0 hz1 .i64 .i64 n (by rw [hz2]; omega) (by unfold maxLen; omega) (Nat.le_refl _)
  have hb := (Below.refl w.heap.size w).grown hg (Nat.le_refl _) (fun k e => by cases e)
  refine ⟨_, w', hr, ?_, hb⟩
  rcases ho.2 with ⟨e1, e2⟩ | ⟨g, cap, cur, e1, e2, e3, e4, e5, e6, e7⟩
  · cases e1
  · simp only [Value.slice.injEq] at e1
    obtain ⟨e1, -, rfl⟩ := e1
    rw [e1]
    refine ⟨g, n, rfl, e2, ⟨_, cur, e3, rfl⟩, fun i hi' => ?_⟩
    rw [e1] at ho
    rw [ho.cellAt i (by omega)]
    have := made_at w [.int .i64 0] 1 (n * 1) i 0 3 (.int .i64 0) rfl (by decide) (by omega) rfl
    unfold World.cell? at this
    rw [heap_alloc_new] at this
    simp only [Option.isSome_none, Bool.false_eq_true, if_false, Nat.mul_one, Nat.add_zero] at this
    rw [← Array.getElem?_toList] at this
    simpa [Value.cells] using this
theorem rnew_no {w : World} {a : Option Addr} {n c : Nat} {zs : List Int} (h : Reads .i64 w a n zs) (hno : okW zs = false) :
    Calls Try.prog 8 #[.slice a n c] w fun e w' => e = .returned (.tuple #[.pointer none, .int .i64 20]) ∧ w' = w := by
  have hmax := h.max
  have HR := hidden_ h
  have HN := hidden_ hno
  have hl := hidden_ h.len
  have hT0 : okTo zs 0 = (decide (1 ≤ n) && decide (n ≤ 4)) := by unfold okTo; rw [h.len]; simp
  have HT0 := hidden_ hT0
  clear h hno hT0
  have start : ∀ b : Bool, (decide (1 ≤ n) && decide (n ≤ 4)) = b → Hid (okTo zs 0 = b) := fun b hb => HT0.out.trans hb
  go_enter Try.func8, Try.ntmps8
  by_cases h0 : 1 ≤ n
  · by_cases h4 : n ≤ 4
    · have h0' : (1 : Int) ≤ (n : Int) := by omega
      have h4' : (n : Int) ≤ 4 := by omega
      have hs := start true (by simp [h0, h4])
      clear start HT0
      go_wp2
      go_loopw [4, 5] (fun q i wr => ∃ k : Nat, k ≤ n ∧ i = .int .i64 k ∧ q = .bool (okTo zs k) ∧ wr = w) (fun _ i _ => n - (intOf i).toNat)
      case atStart => exact ⟨0, Nat.zero_le _, rfl, by rw [hs.out], rfl⟩
      case round =>
        clear hs
        obtain ⟨k, hk, rfl, rfl, hw⟩ := hrel
        subst hw
        obtain ⟨b, eb⟩ : ∃ b, okTo zs k = b := ⟨_, rfl⟩
        rw [eb]
        have EB := hidden_ eb
        clear eb
        cases b with
        | false =>
          have hkn : k < n ∨ ¬ k < n := by omega
          rcases hkn with hlt | hlt
          · have hlt' : (k : Int) < (n : Int) := by omega
            go_wp2
            go_ret2
            exact ⟨rfl, rfl⟩
          · have hlt' : ¬ (k : Int) < (n : Int) := by omega
            go_wp2
            go_ret2
            exact ⟨rfl, rfl⟩
        | true =>
          by_cases hlt : k < n
          · have hlt' : (k : Int) < (n : Int) := by omega
            obtain ⟨y, rfl⟩ := HR.out.some_ (by omega)
            have cy := HR.out.cell y rfl k hlt
            have hsu := hidden_ (okTo_succ zs k (by rw [hl.out]; exact hlt))
            obtain ⟨t, et⟩ : ∃ t, zs.getD k 0 = t := ⟨_, rfl⟩
            rw [et] at cy
            have ET := hidden_ et
            clear et
            by_cases h1 : 1 ≤ t
            · by_cases h16 : t ≤ 16
              · have hb : noW t = false := by simp [noW]; omega
                have HB := hidden_ hb
                clear hb
                go_wp2
                go_roundw
                case rel => exact ⟨k + 1, by omega, by go_num, by rw [hsu.out, EB.out, ET.out, HB.out]; rfl, trivial⟩
                case measure => simp [intOf]; omega
              · have hb : noW t = true := by simp [noW]; omega
                have HB := hidden_ hb
                clear hb
                go_wp2
                go_roundw
                case rel => exact ⟨k + 1, by omega, by go_num, by rw [hsu.out, EB.out, ET.out, HB.out]; rfl, trivial⟩
                case measure => simp [intOf]; omega
            · have hb : noW t = true := by simp [noW]; omega
              have HB := hidden_ hb
              clear hb
              go_wp2
              go_roundw
              case rel => exact ⟨k + 1, by omega, by go_num, by rw [hsu.out, EB.out, ET.out, HB.out]; rfl, trivial⟩
              case measure => simp [intOf]; omega
          · have e : k = n := by omega
            have := EB.out
            rw [e, ← hl.out, okTo_all, HN.out] at this
            cases this
    · have h0' : (1 : Int) ≤ (n : Int) := by omega
      have h4' : ¬ (n : Int) ≤ 4 := by omega
      clear start HT0
      go_wp2
      go_loopw [4, 5] (fun q i wr => q = .bool false ∧ i = .int .i64 0 ∧ wr = w) (fun _ _ _ => 0)
      case atStart => exact ⟨rfl, rfl, rfl⟩
      case round =>
        obtain ⟨rfl, rfl, hw⟩ := hrel
        subst hw
        have h00 : (0 : Int) < (n : Int) := by omega
        go_wp2
        go_ret2
        exact ⟨rfl, rfl⟩
  · have h0' : ¬ (1 : Int) ≤ (n : Int) := by omega
    have hn0 : n = 0 := by omega
    subst hn0
    clear start HT0
    go_wp2
    go_loopw [4, 5] (fun q i wr => q = .bool false ∧ i = .int .i64 0 ∧ wr = w) (fun _ _ _ => 0)
    case atStart => exact ⟨rfl, rfl, rfl⟩
    case round =>
      obtain ⟨rfl, rfl, hw⟩ := hrel
      subst hw
      go_wp2
      go_ret2
      exact ⟨rfl, rfl⟩

end Go.Proofs.Ytkjmlbllpnehlaa
