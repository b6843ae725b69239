/- Appends in the walk: a list copied, a list put behind lists, a layer put behind layers. -/
import Derived.Test.YtjbeloljbjfibaaRows
import Derived.Test.YtjbeloljbjfibaaView
import Derived.Test.YtjbeloljbjfibaaOwn
import Derived.Test.YtjbeloljbjfibaaCfg
import Derived.Test.YtjbeloljbjfibaaCfgs
import Derived.Test.YtjbeloljbjfibaaHeld
import Derived.Test.YtjbeloljbjfibaaTexts
import Derived.Test.YtjbeloljbjfibaaSums
import Derived.Test.YtjbeloljbjfibaaSeals
import Derived.Test.YtjbeloljbjfibaaReader
import Derived.Test.YtjbeloljbjfibaaBlank
import Derived.Test.YtjbeloljbjfibaaCfgRef
import Derived.Test.YtjbeloljbjfibaaSize
import Derived.Test.YtjbeloljbjfibaaSizes
import Derived.Test.YtjbeloljbjfibaaSteps
import Derived.Test.YtjbeloljbjfibaaClo54
import Derived.Test.YtjbeloljbjfibaaFill
import Derived.Test.YtjbeloljbjfibaaMods
import Derived.Test.YtjbeloljbjfibaaFills
import Derived.Test.YtjbeloljbjfibaaShape
import Derived.Test.YtjbeloljbjfibaaShapes
import Derived.Test.YtjbeloljbjfibaaCheck
import Derived.Test.YtjbeloljbjfibaaChecks
import Derived.Test.YtjbeloljbjfibaaDims
import Derived.Test.YtjbeloljbjfibaaFlat
import Derived.Test.YtjbeloljbjfibaaOpens
import Derived.Test.YtjbeloljbjfibaaWts
import Derived.Test.YtjbeloljbjfibaaNumbers
import Derived.Test.YtjbeloljbjfibaaTwos
import Derived.Test.YtjbeloljbjfibaaRdWts
import Derived.Test.YtjbeloljbjfibaaPrefix
import Derived.Test.YtjbeloljbjfibaaBody
import Derived.Test.YtjbeloljbjfibaaDecode
import Derived.Test.YtjbeloljbjfibaaChange
import Derived.Test.YtjbeloljbjfibaaBack
import Derived.WalkKit
import Derived.ProofKit
import Derived.OpenShut
import Derived.Below
import Derived.WalkLawsBesides
import Derived.Deep.QuietTactic
import Derived.BigQuiet
import Derived.Deep.RegionWith
import Derived.Deep.RegionHeld3
import Derived.Deep.OwnRows
import Derived.Deep.Slices
import Derived.Test.YtjbeloljbjfibaaTrips
import Derived.Test.YtjbeloljbjfibaaBytes
import Derived.Test.YtjbeloljbjfibaaInv
import Derived.Test.YtjbeloljbjfibaaInv
import Derived.Test.YtjbeloljbjfibaaBuild
import Derived.Test.YtjbeloljbjfibaaTyped
import Derived.Test.YtjbeloljbjfibaaCopies
namespace Go.Proofs.Ytjbeloljbjfibaa
open Go.ChangeShapes Go.WideShapes Go.ChangeAt Go.RowKit
set_option linter.unusedVariables false

theorem wpList_copy_ts {ops : Array Oper} {rest : List Oper} {o : Oper} {a : Act} {w : World} {Q : Exit → Act → World → Prop} (hgd : o.guard = none) (s x : Operand) (ho : o.op = .call { callee := .builtin .append, args := #[s, x], argTypes := #[26, 26] })
    (B g : Nat) (S : SL) (zs : List Int) (hs : a.eval s = .slice (some ⟨g, 0, none⟩) 0 0) (hx : a.eval x = .slice S.a S.n S.c) (hS : IsS w S zs) (hl : zs.length ≤ 140737488355328) (hg : B ≤ g) (hq : Blk 46 w g #[]) (hB : B ≤ w.heap.size)
    (h : ∀ s' w', Below w.heap.size w w' → TS B w' s' zs → wpList Try.prog ops Q rest (a.put o.dst (.slice s'.a s'.n s'.c)) w') : wpList Try.prog ops Q (o :: rest) a w := by
  refine wpList_plain hgd fun K hK => ?_
  obtain ⟨s', w', hr, hb, ht⟩ := run_copy_ts w g B o.type S zs hS hl hg hq hB
  unfold Oper.wp execOp
  simp only [ho, resolve, invoke, builtin, Sem.run_bind, Sem.run_pure, Result.andThen_ok, List.map_toArray, List.map_cons, List.map_nil, hs, hx, hr]
  exact hK _ _ (h s' w' hb ht)

/-- a list is put behind lists -/
theorem wpList_push {ops : Array Oper} {rest : List Oper} {o : Oper} {a : Act} {w : World} {Q : Exit → Act → World → Prop} (hgd : o.guard = none) (s x : Operand) (ho : o.op = .call { callee := .builtin .append, args := #[s, x], argTypes := #[57, 57] })
    (B k : Nat) (v : Value) (R : Nat → SL) (Z : Nat → List Int) (S : SL) (g c : Nat) (hs : a.eval s = v) (hx : a.eval x = .slice (some ⟨g, 0, none⟩) 1 c) (hT : TG B w v k R Z) (hc : w.cell? ⟨g, 0, none⟩ = some S.v) (hS : TS B w S (Z k)) (hl : (k + 1) * 24 ≤ 140737488355328) (hB : B ≤ w.heap.size)
    (h : ∀ v' w', Below B w w' → Keeps 29 w w' → Keeps 59 w w' → TG B w' v' (k + 1) (upd R k S) Z → wpList Try.prog ops Q rest (a.put o.dst v') w') : wpList Try.prog ops Q (o :: rest) a w := by
  obtain ⟨i0, hi, hz0, hz1, hz2⟩ := i26'
  refine wpList_plain hgd fun K hK => ?_
  refine wp_append_own w s x 57 ho B 26 i0 nilS 1 24 Try.underlying57 hi hz0 hz1 hz2 rfl (by decide) v k _ hs hT.own ⟨g, 0, none⟩ 1 c [S.v] hx rfl (fun j u hj => by
    match j, hj with
    | 0, hj => simp at hj; subst hj; simpa [Addr.add] using hc) (fun u hu => by simp at hu; subst hu; rfl) (by unfold maxLen; omega) hl hB fun v' w' own' hg _ => hK _ _ (h v' w' ?_ ?_ ?_ ?_)
  · exact (Below.refl B w).grown hg hB fun g h => (hT.own.lt g h).1
  · exact Keeps.of_own hg hT.own (by decide)
  · exact Keeps.of_own hg hT.own (by decide)
  · have k46 : Keeps 46 w w' := Keeps.of_own hg hT.own (by decide)
    refine ⟨?_, fun j hj => ?_⟩
    · rw [cellsG_succ, upd_same, cellsG_congr (R' := R) (fun j hj => upd_other R k S (by omega))]
      exact own'
    · by_cases e : j = k
      · subst e
        rw [upd_same]
        exact hS.step k46
      · rw [upd_other R k S e]
        exact (hT.row j (by omega)).step k46

/-- a layer is put behind layers -/
theorem wpList_layer {ops : Array Oper} {rest : List Oper} {o : Oper} {a : Act} {w : World} {Q : Exit → Act → World → Prop} (hgd : o.guard = none) (s x : Operand) (ho : o.op = .call { callee := .builtin .append, args := #[s, x], argTypes := #[27, 27] })
    (B k : Nat) (v : Value) (Y U D : Nat → Nat → SL) (m : ModV) (y uu dd : Nat → SL) (g c : Nat) (hs : a.eval s = v) (hx : a.eval x = .slice (some ⟨g, 0, none⟩) 1 c) (hT : TL B w v k Y U D m) (hc : Blk 59 w g ((List.range 9).map fun r => (y r).v).toArray)
    (hy : TY B w y uu dd (m.f k) (m.un k) (m.dn k) (m.u k) (m.d k)) (hl : (k + 1) * 216 ≤ 140737488355328) (hB : B ≤ w.heap.size)
    (h : ∀ v' w', Below B w w' → TL B w' v' (k + 1) (upd Y k y) (upd U k uu) (upd D k dd) m → wpList Try.prog ops Q rest (a.put o.dst v') w') : wpList Try.prog ops Q (o :: rest) a w := by
  obtain ⟨i0, hi, hz0, hz1, hz2⟩ := i59'
  refine wpList_plain hgd fun K hK => ?_
  refine wp_append_own w s x 27 ho B 59 i0 _ 9 216 Try.underlying27 hi hz0 hz1 hz2 rfl (by decide) v k _ hs hT.own ⟨g, 0, none⟩ 1 c ((List.range 9).map fun r => (y r).v) hx (by simp) (fun j u hj => by
    have e : (⟨g, 0, none⟩ : Addr).add j = ⟨g, j, none⟩ := by by_cases h : j = 0 <;> simp [Addr.add, h]
    rw [e]
    exact hc.cell j (by simpa using hj)) (fun u hu => by obtain ⟨r, _, rfl⟩ := List.mem_map.1 hu; rfl) (by unfold maxLen; omega) hl hB fun v' w' own' hg _ => hK _ _ (h v' w' ?_ ?_)
  · exact (Below.refl B w).grown hg hB fun g h => (hT.own.lt g h).1
  · have k46 : Keeps 46 w w' := Keeps.of_own hg hT.own (by decide)
    have k26 : Keeps 26 w w' := Keeps.of_own hg hT.own (by decide)
    refine ⟨?_, fun j hj => ?_⟩
    · rw [cells9_succ, upd_same, cells9_congr (Y' := Y) (fun j hj r _ => by rw [upd_other Y k y (by omega)])]
      exact own'
    · by_cases e : j = k
      · subst e
        rw [upd_same, upd_same, upd_same]
        exact hy.step k46 k26
      · rw [upd_other Y k y e, upd_other U k uu e, upd_other D k dd e]
        exact (hT.lay j (by omega)).step k46 k26

theorem arr9 {cs : Array Value} {F : Nat → Value} (h : cs.size = 9) (hc : ∀ f, f < 9 → cs[f]? = some (F f)) : cs = #[F 0, F 1, F 2, F 3, F 4, F 5, F 6, F 7, F 8] := by
  apply Array.ext
  · simpa using h
  · intro i h1 h2
    have e := hc i (by omega)
    rw [Array.getElem?_eq_getElem h1] at e
    rw [Option.some.inj e]
    rcases (show i = 0 ∨ i = 1 ∨ i = 2 ∨ i = 3 ∨ i = 4 ∨ i = 5 ∨ i = 6 ∨ i = 7 ∨ i = 8 by omega) with rfl | rfl | rfl | rfl | rfl | rfl | rfl | rfl | rfl <;> rfl

theorem TG.below {B B' : Nat} {w w' : World} {v : Value} {k : Nat} {R : Nat → SL} {Z : Nat → List Int} (h : TG B w v k R Z) (hb : Below w.heap.size w w') : TG B w' v k R Z := h.step (Keeps.of_below hb) (Keeps.of_below hb)
theorem TL.below {B : Nat} {w w' : World} {v : Value} {n : Nat} {Y U D : Nat → Nat → SL} {m : ModV} (h : TL B w v n Y U D m) (hb : Below w.heap.size w w') : TL B w' v n Y U D m := ⟨(Keeps.of_below hb).own h.own, fun i hi => (h.lay i hi).step (Keeps.of_below hb) (Keeps.of_below hb)⟩
theorem TS.le {B B' : Nat} {w : World} {s : SL} {zs : List Int} (h : TS B w s zs) (hb : B' ≤ B) : TS B' w s zs := ⟨h.is, fun x hx => ⟨Nat.le_trans hb (h.blk x hx).1, (h.blk x hx).2⟩⟩
theorem TG.le {B B' : Nat} {w : World} {v : Value} {k : Nat} {R : Nat → SL} {Z : Nat → List Int} (h : TG B w v k R Z) (hb : B' ≤ B) : TG B' w v k R Z := by
  refine ⟨⟨h.own.1, ?_⟩, fun j hj => (h.row j hj).le hb⟩
  rcases h.own.2 with h2 | ⟨g, cap, cur, hv, hg, r⟩
  · exact .inl h2
  · exact .inr ⟨g, cap, cur, hv, by omega, r⟩
theorem TL.le {B B' : Nat} {w : World} {v : Value} {n : Nat} {Y U D : Nat → Nat → SL} {m : ModV} (h : TL B w v n Y U D m) (hb : B' ≤ B) : TL B' w v n Y U D m := by
  refine ⟨⟨h.own.1, ?_⟩, fun i hi => ⟨fun j hj => ((h.lay i hi).f j hj).le hb, (h.lay i hi).u.le hb, (h.lay i hi).d.le hb⟩⟩
  rcases h.own.2 with h2 | ⟨g, cap, cur, hv, hg, r⟩
  · exact .inl h2
  · exact .inr ⟨g, cap, cur, hv, by omega, r⟩

end Go.Proofs.Ytjbeloljbjfibaa
