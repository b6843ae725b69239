/- The first pages are taken out of a row (slices.Delete): the contract. -/
import Derived.Test.YtgjjeggopeppfaaRows
import Derived.Test.YtgjjeggopeppfaaPages
import Derived.Test.YtgjjeggopeppfaaBasis
import Derived.Test.YtgjjeggopeppfaaLeast
import Derived.Test.YtgjjeggopeppfaaLays
import Derived.Test.YtgjjeggopeppfaaTurns
import Derived.Test.YtgjjeggopeppfaaGoods
import Derived.Test.YtgjjeggopeppfaaLies
import Derived.Test.YtgjjeggopeppfaaSeqP
import Derived.Test.YtgjjeggopeppfaaSeqRN
import Derived.Test.YtgjjeggopeppfaaReadsB
import Derived.Test.YtgjjeggopeppfaaRooms
import Derived.Test.YtgjjeggopeppfaaPagesOf
import Derived.WalkKit
import Derived.ProofKit
import Derived.OpenShut
import Derived.Below
import Derived.WalkLawsBesides
import Derived.Deep.QuietTactic
import Derived.BigQuiet
import Derived.Laws.OwnMore
import Derived.Deep.RegionLaw
import Derived.Lib.SliceRun
namespace Go.Proofs.Ytgjjeggopeppfaa
open Go.ChangeShapes Go.WideShapes Go.ChangeAt Go.RowKit
set_option linter.unusedVariables false
set_option linter.unusedSimpArgs false

/-- the first pages are taken out of a row: the others move to its front -/
theorem row_drop {B : Nat} {w : World} {a : Option Addr} {l c : Nat} {zs : List Int} (h : RowI B w a l c zs) (n : Nat) (h0 : 0 < n) (hn : n ≤ l) (hl : l ≤ 1000) :
    ∃ g A, a = some ⟨g, 0, none⟩ ∧ (if c = n then some (⟨g, 0, none⟩ : Addr) else some ⟨g, n, none⟩) = some A ∧ l ≤ c ∧ c ≤ 9223372036854775807 ∧
      ∃ W1 W2, (Builtin.append_ #[49, 49] 49 #[.slice (some ⟨g, 0, none⟩) 0 c, .slice (some A) (l - n) (c - n)]).run Try.prog w.drew = .ok (.slice (some ⟨g, 0, none⟩) (l - n) c) W1 ∧
        (∀ ty, (Builtin.clear_ #[49] ty #[.slice (some ⟨g, l - n, none⟩) n (c - (l - n))]).run Try.prog W1 = .ok (.tuple #[]) W2) ∧
        RowI B W2 a (l - n) c (zs.drop n) ∧ OffS B (fun _ => false) (blkOf a) w W2 := by
  obtain ⟨it, hi, hz0, hz1, hz2⟩ := info_parts info3
  have hlen := h.len
  have ho := h.own
  rcases ho.2 with ⟨h1, h2⟩ | ⟨g, cap, cur, h1, h2, h3, h4, h5, h6, h7⟩
  · omega
  · simp only [Value.slice.injEq] at h1
    obtain ⟨rfl, _, rfl⟩ := h1
    have hcap : c ≤ 9223372036854775807 := by unfold maxLen at h5; omega
    obtain ⟨A, hA⟩ : ∃ A, (if c = n then some (⟨g, 0, none⟩ : Addr) else some ⟨g, n, none⟩) = some A := by by_cases e : c = n <;> simp [e]
    refine ⟨g, A, rfl, hA, h4, hcap, ?_⟩
    have hcell : ∀ j, j < l → w.cell? ⟨g, j, none⟩ = some (.int .i64 (zs.getD j 0)) := fun j hj => by
      rw [ho.cellAt j (by omega)]
      exact ints_at zs j (by omega)
    have hfr : ∀ j, w.frozen? ⟨g, j, none⟩ = false := fun j => ho.frozenAt j
    have hrow : Row 3 w g cur.size := ⟨cur, h3, rfl⟩
    obtain ⟨news, hnews⟩ : ∃ news, news = (zs.drop n).map (Value.int .i64) := ⟨_, rfl⟩
    have hnl : news.length = l - n := by rw [hnews]; simp [hlen]
    have hsrc : ∀ j u, news[j]? = some u → w.drew.cell? (A.add j) = some u := fun j u hj => by
      have hjl : j < l - n := by have := (List.getElem?_eq_some_iff.1 hj).1; omega
      have e : ¬ c = n := by omega
      rw [if_neg e] at hA
      obtain rfl := Option.some.inj hA
      have ea : (⟨g, n, none⟩ : Addr).add j = ⟨g, n + j, none⟩ := by simp [Addr.add]
      rw [ea]
      show w.cell? _ = _
      rw [hcell (n + j) (by omega), ← hj, hnews, List.getElem?_map, List.getElem?_drop]
      simp [List.getD, show n + j < zs.length by omega]
    have r1 := run_append_room_cells (P := Try.prog) w.drew 49 49 3 it Try.underlying49 hi g 0 0 c A (l - n) (c - n) news (by rw [hz1, hnl, Nat.mul_one]) hsrc (fun u hu => by rw [hnews] at hu; exact ints_one _ u hu) (by omega)
      (fun j hj => by rw [hz1]; simp only [Nat.zero_mul, Nat.zero_add]; show (w.cell? _).isSome = true; rw [hcell j (by omega)]; rfl) (fun j hj => by rw [hz1]; simp only [Nat.zero_mul, Nat.zero_add]; exact hfr j)
    rw [hz1] at r1
    simp only [Nat.zero_mul, Nat.zero_add] at r1
    have hrow1 : Row 3 (w.drew.setCells g 0 news) g cur.size := Row.sets news 0 (show Row 3 w.drew g cur.size from hrow)
    have hsz : l ≤ cur.size := by omega
    have in1 : ∀ j (hj : j < l - n), (w.drew.setCells g 0 news).cell? ⟨g, j, none⟩ = some (.int .i64 ((zs.drop n).getD j 0)) := fun j hj => by
      have := World.cell?_setCells_in g news 0 w.drew (fun k hk => by rw [Nat.zero_add]; show (w.cell? _).isSome = true; rw [hcell k (by omega)]; rfl) j (by omega)
      rw [Nat.zero_add] at this
      rw [this, ← List.getElem?_eq_getElem, hnews]
      exact ints_at _ j (by simp [hlen]; omega)
    have r2 := fun ty => Lib.run_clear_slice (P := Try.prog) (w.drew.setCells g 0 news) 49 3 ty (.int .i64 0) Try.underlying49 Try.zeroValue3 rfl rfl g (l - n) n (c - (l - n)) h0
      (fun j hj => by obtain ⟨v, e⟩ := hrow1.some_ (l - n + j) (by omega); rw [e]; rfl) (fun j hj => hrow1.open_ _)
    refine ⟨_, _, r1, r2, ?_, ?_⟩
    · have hrow2 : Row 3 ((w.drew.setCells g 0 news).setCells g (l - n) (List.replicate n (.int .i64 0))) g cur.size := Row.sets _ _ hrow1
      obtain ⟨cur2, e2, s2⟩ := hrow2
      refine ⟨by simp [hlen], ⟨by simp [hlen], .inr ⟨g, c, cur2, rfl, h2, e2, by omega, h5, by rw [s2]; exact h6, ?_⟩⟩, fun z hz => h.wf z (List.mem_of_mem_drop hz)⟩
      apply List.ext_getElem?
      intro j
      by_cases hj : j < l - n
      · have out : ((w.drew.setCells g 0 news).setCells g (l - n) (List.replicate n (Value.int .i64 0))).cell? ⟨g, j, none⟩ = (w.drew.setCells g 0 news).cell? ⟨g, j, none⟩ := World.cell?_setCells_out g _ (l - n) _ ⟨g, j, none⟩ (fun _ _ => .inl hj)
        rw [in1 j hj] at out
        rw [List.getElem?_take, if_pos (by omega), ints_at _ j (by simp [hlen]; omega)]
        have := out
        rw [cell_of_row _ g j cur2 3 (0, 0) e2] at this
        simpa using this
      · rw [List.getElem?_take, if_neg (by omega), List.getElem?_eq_none (by simp [hlen]; omega)]
    · have hb : blkOf (some (⟨g, 0, none⟩ : Addr)) g := ⟨_, rfl, rfl⟩
      obtain ⟨a1, a2, a3, a4⟩ := setCells_rest g news w.drew 0
      obtain ⟨b1, b2, b3, b4⟩ := setCells_rest g (List.replicate n (Value.int .i64 0)) (w.drew.setCells g 0 news) (l - n)
      refine ⟨b1.trans a1, b2.trans a2, b3.trans a3, by rw [b4, a4]; exact Nat.le_refl _, fun k hk hc => ?_⟩
      have hne : k ≠ g := fun e => by
        subst e
        rcases hc with hc | hc
        · omega
        · exact hc.1 hb
      rw [setCells_block g _ _ _ k hne, setCells_block g _ _ _ k hne]
      rfl

theorem delete_call {B : Nat} {w : World} {a : Option Addr} {l c : Nat} {zs : List Int} (h : RowI B w a l c zs) (n : Nat) (hn : n ≤ l) (hl : l ≤ 1000) :
    Calls Try.prog 45 #[.slice a l c, .int .i64 0, .int .i64 n] w fun e w' => e = .returned (.slice a (l - n) c) ∧ RowI B w' a (l - n) c (zs.drop n) ∧ OffS B (fun _ => false) (blkOf a) w w' := by
  have hcap := own_cap h.own
  by_cases h0 : n = 0
  · subst h0
    have HF := hidden_ h
    have hcm : c ≤ 9223372036854775807 := by
      rcases h.own.2 with ⟨h1, h2⟩ | ⟨g, cap, cur, h1, h2, h3, h4, h5, h6, h7⟩
      · simp only [Value.slice.injEq] at h1; omega
      · simp only [Value.slice.injEq] at h1; unfold maxLen at h5; omega
    have hnil : a = none → c = 0 := fun e => by
      rcases h.own.2 with ⟨h1, h2⟩ | ⟨g, cap, cur, h1, h2, h3, h4, h5, h6, h7⟩
      · simp only [Value.slice.injEq] at h1; omega
      · simp only [Value.slice.injEq] at h1; rw [e] at h1; cases h1.1
    have fin : Calls Try.prog 45 #[.slice a l c, .int .i64 0, .int .i64 (0 : Nat)] w fun e w' => e = .returned (.slice a l c) ∧ w' = w := by
      clear h HF
      cases a with
      | none =>
        obtain rfl := hnil rfl
        obtain rfl : l = 0 := by omega
        clear hnil
        go_enter Try.func45, Try.ntmps45
        go_wp2
        go_ret
        exact ⟨rfl, rfl⟩
      | some y =>
        clear hnil
        go_enter Try.func45, Try.ntmps45
        go_wp2
        go_ret
        exact ⟨rfl, rfl⟩
    refine fin.mono ?_
    rintro e w' ⟨rfl, rfl⟩
    exact ⟨rfl, HF.out, OffS.refl _ _ _ _⟩
  · obtain ⟨g, A, rfl, hA, hlc, hcm, W1, W2, hap, hcl, hrow, hoff⟩ := row_drop h n (by omega) hn hl
    have HF := hidden_ (And.intro hrow hoff)
    have z1 : ((0 : Int) == (n : Int)) = false := by simp; omega
    have z2 : ¬ ((0 : Int) = (n : Int)) := by omega
    obtain ⟨d, ed⟩ : ∃ d, l - n = d := ⟨_, rfl⟩
    obtain rfl : l = d + n := by omega
    rw [Nat.add_sub_cancel] at hap hcl HF ⊢
    have hle : (n : Int) ≤ (d : Int) + (n : Int) := by omega
    have hle' : (d : Int) ≤ (d : Int) + (n : Int) := by omega
    clear h hrow hoff ed
    go_enter Try.func45, Try.ntmps45
    go_wp2_with fail
    go_region_law (refine step_append_run rfl (.tmp 22) (.tmp 25) 49 rfl 49 rfl _ _ (by simp [Act.eval, Act.put]) (by simp [Act.eval, Act.put]) _ _ hap ?_)
    go_wp2
    go_ret
    exact ⟨rfl, HF.out.1, HF.out.2⟩

end Go.Proofs.Ytgjjeggopeppfaa
