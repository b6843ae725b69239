/- The document's Shape: what its walks find between their steps. -/
import Derived.Test.YtjbeloljbjfibaaRows
import Derived.Test.YtjbeloljbjfibaaLayer8
import Derived.Test.YtjbeloljbjfibaaConf
import Derived.Test.YtjbeloljbjfibaaBlank
import Derived.Test.YtjbeloljbjfibaaCfgRef
import Derived.Test.YtjbeloljbjfibaaSize
import Derived.Test.YtjbeloljbjfibaaSizes
import Derived.Test.YtjbeloljbjfibaaSteps
import Derived.Test.YtjbeloljbjfibaaClo54
import Derived.Test.YtjbeloljbjfibaaFill
import Derived.Test.YtjbeloljbjfibaaMods
import Derived.Test.YtjbeloljbjfibaaFills
import Derived.Test.YtjbeloljbjfibaaShape
import Derived.Test.YtjbeloljbjfibaaShapes
import Derived.Test.YtjbeloljbjfibaaCheck
import Derived.Test.YtjbeloljbjfibaaChecks
import Derived.Test.YtjbeloljbjfibaaDims
import Derived.Test.YtjbeloljbjfibaaFlat
import Derived.Test.YtjbeloljbjfibaaNumbers
import Derived.Test.YtjbeloljbjfibaaPrefix
import Derived.Test.YtjbeloljbjfibaaBody
import Derived.Test.YtjbeloljbjfibaaDecode
import Derived.WalkKit
import Derived.ProofKit
import Derived.OpenShut
import Derived.Below
import Derived.WalkLawsBesides
import Derived.Deep.QuietTactic
import Derived.BigQuiet
import Derived.Deep.RegionWith
import Derived.Deep.RegionHeld3
import Derived.Deep.OwnRows
import Derived.Deep.Slices
import Derived.Test.YtjbeloljbjfibaaTrips
import Derived.Test.YtjbeloljbjfibaaInv
import Derived.Test.YtjbeloljbjfibaaBuild
import Derived.Test.YtjbeloljbjfibaaTypedC
import Derived.Test.YtjbeloljbjfibaaEqWorks
import Derived.Test.YtjbeloljbjfibaaCuts
import Derived.Test.YtjbeloljbjfibaaSameLM
import Derived.Test.YtjbeloljbjfibaaOwns
import Derived.Test.YtjbeloljbjfibaaJoin
import Derived.Test.YtjbeloljbjfibaaNexts
import Derived.Test.YtjbeloljbjfibaaFirst
import Derived.Test.YtjbeloljbjfibaaFirst3
import Derived.Test.YtjbeloljbjfibaaNets
namespace Go.Proofs.Ytjbeloljbjfibaa
open Go.ChangeShapes Go.WideShapes Go.ChangeAt Go.RowKit
set_option linter.unusedVariables false

/-- a layer is put behind layers (what else is as it was, too) -/
theorem wpList_layer2 {ops : Array Oper} {rest : List Oper} {o : Oper} {a : Act} {w : World} {Q : Exit → Act → World → Prop} (hgd : o.guard = none) (s x : Operand) (ho : o.op = .call { callee := .builtin .append, args := #[s, x], argTypes := #[27, 27] })
    (B k : Nat) (v : Value) (Y U D : Nat → Nat → SL) (m : ModV) (y uu dd : Nat → SL) (g c : Nat) (hs : a.eval s = v) (hx : a.eval x = .slice (some ⟨g, 0, none⟩) 1 c) (hT : TL B w v k Y U D m) (hc : Blk 59 w g ((List.range 9).map fun r => (y r).v).toArray)
    (hy : TY B w y uu dd (m.f k) (m.un k) (m.dn k) (m.u k) (m.d k)) (hl : (k + 1) * 216 ≤ 140737488355328) (hB : B ≤ w.heap.size)
    (h : ∀ v' w', w.grownBy w' v.ownBlock → (∀ g, v.ownBlock = some g → B ≤ g) → Keeps 29 w w' → Keeps 46 w w' → TL B w' v' (k + 1) (upd Y k y) (upd U k uu) (upd D k dd) m → wpList Try.prog ops Q rest (a.put o.dst v') w') : wpList Try.prog ops Q (o :: rest) a w := by
  obtain ⟨i0, hi, hz0, hz1, hz2⟩ := i59'
  refine wpList_plain hgd fun K hK => ?_
  refine wp_append_own w s x 27 ho B 59 i0 _ 9 216 Try.underlying27 hi hz0 hz1 hz2 rfl (by decide) v k _ hs hT.own ⟨g, 0, none⟩ 1 c ((List.range 9).map fun r => (y r).v) hx (by simp) (fun j u hj => by
    have e : (⟨g, 0, none⟩ : Addr).add j = ⟨g, j, none⟩ := by by_cases h : j = 0 <;> simp [Addr.add, h]
    rw [e]
    exact hc.cell j (by simpa using hj)) (fun u hu => by obtain ⟨r, _, rfl⟩ := List.mem_map.1 hu; rfl) (by unfold maxLen; omega) hl hB fun v' w' own' hg _ => hK _ _ (h v' w' hg (fun g hg => (hT.own.lt g hg).1) (Keeps.of_own hg hT.own (by decide)) (Keeps.of_own hg hT.own (by decide)) ?_)
  have k46 : Keeps 46 w w' := Keeps.of_own hg hT.own (by decide)
  have k26 : Keeps 26 w w' := Keeps.of_own hg hT.own (by decide)
  refine ⟨?_, fun j hj => ?_⟩
  · rw [cells9_succ, upd_same, cells9_congr (Y' := Y) (fun j hj r _ => by rw [upd_other Y k y (by omega)])]
    exact own'
  · by_cases e : j = k
    · subst e
      rw [upd_same, upd_same, upd_same]
      exact hy.step k46 k26
    · rw [upd_other Y k y e, upd_other U k uu e, upd_other D k dd e]
      exact (hT.lay j (by omega)).step k46 k26

theorem TL.slice {B : Nat} {w : World} {v : Value} {n : Nat} {Y U D : Nat → Nat → SL} {m : ModV} (h : TL B w v n Y U D m) : ∃ s : SL, v = .slice s.a s.n s.c := by
  rcases h.own.2 with ⟨e, _⟩ | ⟨g, cap, cur, e, _⟩
  · exact ⟨⟨none, 0, 0⟩, e⟩
  · exact ⟨⟨_, _, _⟩, e⟩
theorem TL.step {B : Nat} {w w' : World} {v : Value} {n : Nat} {Y U D : Nat → Nat → SL} {m : ModV} (h : TL B w v n Y U D m) (k59 : Keeps 59 w w') (k46 : Keeps 46 w w') (k26 : Keeps 26 w w') : TL B w' v n Y U D m := ⟨k59.own h.own, fun i hi => (h.lay i hi).step k46 k26⟩
theorem TG.but {B : Nat} {w w' : World} {v : Value} {k : Nat} {R : Nat → SL} {Z : Nat → List Int} {r : Option Nat} (h : TG B w v k R Z) (kb : KeepsBut 26 r w w') (hv : ∀ g, v.ownBlock = some g → r ≠ some g) (k46 : Keeps 46 w w') : TG B w' v k R Z := ⟨kb.own hv h.own, fun j hj => (h.row j hj).step k46⟩

/-- between the calls of a round -/
structure LayS (WR : World) (xb sb lb N : Nat) (ws : List Int) (cnt : Nat → Nat) (K : Nat) (cs : Array Value) (W : World) : Prop where
  only : Only xb WR W
  cut : CutAt W xb sb N ws (offs cnt K)
  blk : Blk 59 W lb cs

theorem LayS.step {WR W W' : World} {xb sb lb N : Nat} {ws : List Int} {cnt : Nat → Nat} {K : Nat} {cs : Array Value} (h : LayS WR xb sb lb N ws cnt K cs W) (hlb : WR.heap.size ≤ lb) (hx : xb < WR.heap.size) (hs : sb < WR.heap.size) (on : Only xb W W') (cut' : CutAt W' xb sb N ws (offs cnt (K + 1))) (r : Nat) {o : Value} (old : cs[r]? = some o) (s : SL) {cs' : Array Value} (ec : cs.setIfInBounds r (.slice s.a s.n s.c) = cs') :
    ∃ V, W'.setCell ⟨lb, r, none⟩ (.slice s.a s.n s.c) = V ∧ W'.cell? ⟨lb, r, none⟩ = some o ∧ W'.frozen? ⟨lb, r, none⟩ = false ∧ LayS WR xb sb lb N ws cnt (K + 1) cs' V ∧ Keeps 46 W V ∧ Keeps 46 W' V := by
  have q := h.blk.only on (by omega)
  have o2 : Only lb W' (W'.setCell ⟨lb, r, none⟩ (.slice s.a s.n s.c)) := Only.set _ _ _ _
  have k2 : Keeps 46 W' (W'.setCell ⟨lb, r, none⟩ (.slice s.a s.n s.c)) := Keeps.of_only o2 q (by decide)
  exact ⟨_, rfl, q.cell r old, q.open_ r, ⟨(h.only.trans on).new hlb o2, cut'.only o2 (by omega) (by omega), ec ▸ q.set r _⟩, (h.cut.keeps on (by decide)).trans k2, k2⟩

/-- the layers so far -/
structure ShI (A : World) (xb sb mb N : Nat) (ws : List Int) (cnt : Nat → Nat) (ne : Nat) (C : SL → SL → Array Value) (sE : SL) (m : ModV) (i : Nat) (W : World) : Prop where
  only : Only xb A W
  cut : CutAt W xb sb N ws (offs cnt (1 + i * pl ne))
  te : TS A.heap.size W sE m.e
  mod : ∃ (L : SL) (Y U D : Nat → Nat → SL), Blk 29 W mb (C sE L) ∧ TL A.heap.size W (.slice L.a L.n L.c) i Y U D m

/-- rows that lie apart -/
def Apart (u d : Value) : Prop := ∀ g, u.ownBlock = some g → d.ownBlock ≠ some g

/-- the networks so far -/
structure NetI (WR V6 : World) (xb sb lb N : Nat) (ws : List Int) (cnt : Nat → Nat) (K0 : Nat) (C : SL → SL → Array Value) (zu zd : Nat → List Int) (k : Nat) (W : World) : Prop where
  only : Only xb WR W
  cut : CutAt W xb sb N ws (offs cnt (K0 + 2 * k))
  nets : ∃ (u d : SL) (RU RD : Nat → SL), Blk 59 W lb (C u d) ∧ TG WR.heap.size W (.slice u.a u.n u.c) k RU zu ∧ TG WR.heap.size W (.slice d.a d.n d.c) k RD zd ∧ Apart (.slice u.a u.n u.c) (.slice d.a d.n d.c)
  k46 : Keeps 46 V6 W
  size : V6.heap.size ≤ W.heap.size

theorem apart_of {w0 w1 : World} {B : Nat} {u d u' d' : Value} {k k' : Nat} {R R' : Nat → SL} {Z Z' : Nat → List Int} (h : Apart u d) (hd : TG B w0 d k R Z) (hu' : TG B w1 u' k' R' Z') (ou : OB u w0 u') (od : OB d w1 d') : Apart u' d' := by
  intro g h1 h2
  rcases od with e | ⟨b, hb, e⟩
  · rcases ou with e' | ⟨b', hb', e'⟩
    · exact h g (by rw [← e']; exact h1) (by rw [← e]; exact h2)
    · have : b' = g := Option.some.inj (e'.symm.trans h1)
      have := (hd.own.lt g (by rw [← e]; exact h2)).2
      omega
  · have : b = g := Option.some.inj (e.symm.trans h2)
    have := (hu'.own.lt g h1).2
    omega

theorem fin12 {X : World} {mb : Nat} {cs cs' : Array Value} (q : Blk 29 X mb cs) (r : Nat) (s : SL) {o : Value} (old : cs[r]? = some o) (ec : cs.setIfInBounds r (.slice s.a s.n s.c) = cs') : ∃ V, X.setCell ⟨mb, r, none⟩ (.slice s.a s.n s.c) = V ∧ X.cell? ⟨mb, r, none⟩ = some o ∧ X.frozen? ⟨mb, r, none⟩ = false ∧ Blk 29 V mb cs' ∧ Only mb X V ∧ (∀ t, t ≠ 29 → Keeps t X V) :=
  ⟨_, rfl, q.cell r old, q.open_ r, ec ▸ q.set r _, Only.set _ _ _ _, fun t ht => Keeps.of_only (Only.set _ _ _ _) q ht⟩

theorem firD_out {s : Nat} (h : s ∉ [27, 28, 29, 30, 31, 32, 33, 34, 8]) : ∀ j, j < 10 → firD j ≠ some s := by
  intro j hj e
  apply h
  have H : ∀ j, j < 10 → (match firD j with | some s => decide (s ∈ [27, 28, 29, 30, 31, 32, 33, 34, 8]) | none => true) = true := by decide
  have := H j hj
  rw [e] at this
  simpa using this

end Go.Proofs.Ytjbeloljbjfibaa
