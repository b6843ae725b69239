/- A text is taken out of a row (slices.Delete). -/
import Derived.Test.YtfggkkhehaafcaaRows
import Derived.Test.YtfggkkhehaafcaaPages
import Derived.Test.YtfggkkhehaafcaaView
import Derived.Test.YtfggkkhehaafcaaOwn
import Derived.Test.YtfggkkhehaafcaaReadsP
import Derived.Test.YtfggkkhehaafcaaLeast
import Derived.Test.YtfggkkhehaafcaaMapV
import Derived.Test.YtfggkkhehaafcaaShPlain
import Derived.Test.YtfggkkhehaafcaaShActs
import Derived.Test.YtfggkkhehaafcaaShAt
import Derived.WalkKit
import Derived.ProofKit
import Derived.OpenShut
import Derived.Below
import Derived.WalkLawsBesides
import Derived.Deep.QuietTactic
import Derived.BigQuiet
import Derived.Laws.OwnMore
import Derived.Deep.RegionLaw
import Derived.Lib.SliceRun
namespace Go.Proofs.Ytfggkkhehaafcaa
open Go.ChangeShapes Go.WideShapes Go.ChangeAt Go.RowKit
set_option linter.unusedVariables false
set_option linter.unusedSimpArgs false

theorem step_append_run {P : Program} {ops : Array Oper} {o : Oper} {a : Act} {w : World} {K : Act → World → Prop} {Q : Exit → Act → World → Prop} {E : Prop}
    (hg : o.guard = none) (s x : Operand) (t : TypeId) (hop : o.op = Op.call { callee := Callee.builtin Builtin.append, args := #[s, x], argTypes := #[t, t] })
    (ty : TypeId) (hty : o.type = ty) (V1 V2 : Value) (hs : a.eval s = V1) (hx : a.eval x = V2) (v' : Value) (w' : World) (hrun : (Builtin.append_ #[t, t] ty #[V1, V2]).run P w = .ok v' w') (hK : K (a.put o.dst v') w') :
    if Region.wanted o (yielded ops a.tmps) = true then Oper.wp P o a w K Q else E := by
  have hw : Region.wanted o (yielded ops a.tmps) = true := by simp [Region.wanted, hg]
  rw [if_pos hw]
  subst hty
  unfold Oper.wp
  simp [execOp, hop, resolve, invoke, builtin, hs, hx, hrun, Result.andThen]
  exact hK

theorem info9 : (Try.prog.info? 9).map (fun i => (i.zero, i.size, i.bytes)) = some (some (.string ⟨#[]⟩), 1, 16) := by kernel_rfl

/-- a text is taken out of a row: those behind it move up -/
theorem row_cut {B : Nat} {w : World} {a : Option Addr} {d c : Nat} {ts : List ByteArray} (h : RowT B w a (d + 1) c ts) (K : Nat) (hK : K ≤ d) (hl : d ≤ 1000) :
    ∃ g A, a = some ⟨g, 0, none⟩ ∧ (if c = K + 1 then some (⟨g, 0, none⟩ : Addr) else some ⟨g, K + 1, none⟩) = some A ∧ d + 1 ≤ c ∧ c ≤ 9223372036854775807 ∧
      ∃ W1 W2, (Builtin.append_ #[46, 46] 46 #[.slice (some ⟨g, 0, none⟩) K c, .slice (some A) (d - K) (c - (K + 1))]).run Try.prog w.drew = .ok (.slice (some ⟨g, 0, none⟩) d c) W1 ∧
        (∀ ty, (Builtin.clear_ #[46] ty #[.slice (some ⟨g, d, none⟩) 1 (c - d)]).run Try.prog W1 = .ok (.tuple #[]) W2) ∧
        RowT B W2 a d c (ts.eraseIdx K) ∧ OffS B (fun _ => false) (blkOf a) w W2 := by
  obtain ⟨it, hi, hz0, hz1, hz2⟩ := info_parts info9
  have hlen := h.len
  have ho := h.own
  rcases ho.2 with ⟨h1, h2⟩ | ⟨g, cap, cur, h1, h2, h3, h4, h5, h6, h7⟩
  · omega
  · simp only [Value.slice.injEq] at h1
    obtain ⟨rfl, _, rfl⟩ := h1
    have hcap : c ≤ 9223372036854775807 := by unfold maxLen at h5; omega
    obtain ⟨A, hA⟩ : ∃ A, (if c = K + 1 then some (⟨g, 0, none⟩ : Addr) else some ⟨g, K + 1, none⟩) = some A := by by_cases e : c = K + 1 <;> simp [e]
    refine ⟨g, A, rfl, hA, h4, hcap, ?_⟩
    have hcell : ∀ j, j < d + 1 → w.cell? ⟨g, j, none⟩ = some (.string (ts.getD j noText)) := fun j hj => by
      rw [ho.cellAt j (by omega)]
      exact texts_at ts j (by omega)
    have hfr : ∀ j, w.frozen? ⟨g, j, none⟩ = false := fun j => ho.frozenAt j
    have hrow : Row 9 w g cur.size := ⟨cur, h3, rfl⟩
    obtain ⟨news, hnews⟩ : ∃ news, news = (ts.drop (K + 1)).map Value.string := ⟨_, rfl⟩
    have hnl : news.length = d - K := by rw [hnews]; simp [hlen]
    have hsrc : ∀ j u, news[j]? = some u → w.drew.cell? (A.add j) = some u := fun j u hj => by
      have hjl : j < d - K := by have := (List.getElem?_eq_some_iff.1 hj).1; omega
      have e : ¬ c = K + 1 := by omega
      rw [if_neg e] at hA
      obtain rfl := Option.some.inj hA
      have ea : (⟨g, K + 1, none⟩ : Addr).add j = ⟨g, K + 1 + j, none⟩ := by simp [Addr.add]
      rw [ea]
      show w.cell? _ = _
      rw [hcell (K + 1 + j) (by omega), ← hj, hnews, List.getElem?_map, List.getElem?_drop]
      simp [List.getD, show K + 1 + j < ts.length by omega]
    have r1 := run_append_room_cells (P := Try.prog) w.drew 46 46 9 it Try.underlying46 hi g 0 K c A (d - K) (c - (K + 1)) news (by rw [hz1, hnl, Nat.mul_one]) hsrc (fun u hu => by rw [hnews] at hu; obtain ⟨z, _, rfl⟩ := List.mem_map.1 hu; rfl) (by omega)
      (fun j hj => by rw [hz1]; simp only [Nat.mul_one, Nat.zero_add]; show (w.cell? _).isSome = true; rw [hcell (K + j) (by omega)]; rfl) (fun j hj => by rw [hz1]; simp only [Nat.mul_one, Nat.zero_add]; exact hfr (K + j))
    rw [hz1] at r1
    simp only [Nat.mul_one, Nat.zero_add] at r1
    rw [show K + (d - K) = d by omega] at r1
    have hrow1 : Row 9 (w.drew.setCells g K news) g cur.size := Row.sets news K (show Row 9 w.drew g cur.size from hrow)
    have hsz : d + 1 ≤ cur.size := by omega
    have in1 : ∀ j (hj : j < d), (w.drew.setCells g K news).cell? ⟨g, j, none⟩ = some (.string ((ts.eraseIdx K).getD j noText)) := fun j hj => by
      by_cases hjK : j < K
      · have out : (w.drew.setCells g K news).cell? ⟨g, j, none⟩ = w.drew.cell? ⟨g, j, none⟩ := World.cell?_setCells_out g _ K _ ⟨g, j, none⟩ (fun _ _ => .inl hjK)
        rw [out]
        show w.cell? _ = _
        rw [hcell j (by omega)]
        simp [List.getD, List.getElem?_eraseIdx_of_lt hjK]
      · have := World.cell?_setCells_in g news K w.drew (fun k hk => by show (w.cell? _).isSome = true; rw [hcell (K + k) (by omega)]; rfl) (j - K) (by omega)
        rw [show K + (j - K) = j by omega] at this
        rw [this, ← List.getElem?_eq_getElem, hnews, List.getElem?_map, List.getElem?_drop]
        simp [List.getD, List.getElem?_eraseIdx_of_ge (show K ≤ j by omega), show K + 1 + (j - K) = j + 1 by omega, show j + 1 < ts.length by omega]
    have r2 := fun ty => Lib.run_clear_slice (P := Try.prog) (w.drew.setCells g K news) 46 9 ty (.string ⟨#[]⟩) Try.underlying46 Try.zeroValue9 rfl rfl g d 1 (c - d) (by omega)
      (fun j hj => by obtain ⟨v, e⟩ := hrow1.some_ (d + j) (by omega); rw [e]; rfl) (fun j hj => hrow1.open_ _)
    refine ⟨_, _, r1, r2, ?_, ?_⟩
    · have hrow2 : Row 9 ((w.drew.setCells g K news).setCells g d (List.replicate 1 (.string ⟨#[]⟩))) g cur.size := Row.sets _ _ hrow1
      obtain ⟨cur2, e2, s2⟩ := hrow2
      have hel : (ts.eraseIdx K).length = d := by rw [List.length_eraseIdx]; simp [hlen]; omega
      refine ⟨hel, ⟨by simp [hel], .inr ⟨g, c, cur2, rfl, h2, e2, by omega, h5, by rw [s2]; exact h6, ?_⟩⟩⟩
      apply List.ext_getElem?
      intro j
      by_cases hj : j < d
      · have out : ((w.drew.setCells g K news).setCells g d (List.replicate 1 (Value.string ⟨#[]⟩))).cell? ⟨g, j, none⟩ = (w.drew.setCells g K news).cell? ⟨g, j, none⟩ := World.cell?_setCells_out g _ d _ ⟨g, j, none⟩ (fun _ _ => .inl hj)
        rw [in1 j hj] at out
        rw [List.getElem?_take, if_pos (by omega), texts_at _ j (by omega)]
        have := out
        rw [cell_of_row _ g j cur2 9 (0, 0) e2] at this
        simpa using this
      · rw [List.getElem?_take, if_neg (by omega), List.getElem?_eq_none (by simp [hel]; omega)]
    · have hb : blkOf (some (⟨g, 0, none⟩ : Addr)) g := ⟨_, rfl, rfl⟩
      obtain ⟨a1, a2, a3, a4⟩ := setCells_rest g news w.drew K
      obtain ⟨b1, b2, b3, b4⟩ := setCells_rest g (List.replicate 1 (Value.string ⟨#[]⟩)) (w.drew.setCells g K news) d
      refine ⟨b1.trans a1, b2.trans a2, b3.trans a3, by rw [b4, a4]; exact Nat.le_refl _, fun k hk hc => ?_⟩
      have hne : k ≠ g := fun e => by
        subst e
        rcases hc with hc | hc
        · omega
        · exact hc.1 hb
      rw [setCells_block g _ _ _ k hne, setCells_block g _ _ _ k hne]
      rfl

theorem delete_call {B : Nat} {w : World} {a : Option Addr} {d c : Nat} {ts : List ByteArray} (h : RowT B w a (d + 1) c ts) (K : Nat) (hK : K ≤ d) (hl : d ≤ 1000) :
    Calls Try.prog 78 #[.slice a (d + 1) c, .int .i64 (K : Int), .int .i64 ((K : Int) + 1)] w fun e w' => e = .returned (.slice a d c) ∧ RowT B w' a d c (ts.eraseIdx K) ∧ OffS B (fun _ => false) (blkOf a) w w' := by
  obtain ⟨g, A, rfl, hA, hlc, hcm, W1, W2, hap, hcl, hrow, hoff⟩ := row_cut h K hK hl
  have HF := hidden_ (And.intro hrow hoff)
  obtain ⟨J, eJ⟩ : ∃ J : Nat, K + 1 = J := ⟨_, rfl⟩
  have eJ' : (K : Int) + 1 = (J : Int) := by omega
  obtain ⟨m, em⟩ : ∃ m : Nat, d - K = m := ⟨_, rfl⟩
  have em' : d + 1 - J = m := by omega
  rw [eJ] at hA hap
  rw [em] at hap
  rw [eJ']
  have z1 : ((K : Int) == (J : Int)) = false := by simp; omega
  have z2 : ¬ ((K : Int) = (J : Int)) := by omega
  have hle : (J : Int) ≤ (d : Int) + 1 := by omega
  have hle' : (K : Int) ≤ (J : Int) := by omega
  have hle2 : (K : Int) ≤ (d : Int) + 1 := by omega
  have hJ : J ≤ 1001 := by omega
  have hKc : K ≤ c := by omega
  have hJc : J ≤ c := by omega
  clear h hrow hoff eJ eJ' em
  go_enter Try.func78, Try.ntmps78
  go_wp2_with fail
  go_region_law (refine step_append_run rfl (.tmp 22) (.tmp 25) 46 rfl 46 rfl _ _ (by simp [Act.eval, Act.put]) (by simp [Act.eval, Act.put]) _ _ hap ?_)
  go_wp2
  go_ret
  exact ⟨rfl, HF.out.1, HF.out.2⟩

end Go.Proofs.Ytfggkkhehaafcaa
