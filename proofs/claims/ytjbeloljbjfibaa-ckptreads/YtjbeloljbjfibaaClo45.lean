/- The closure of Flat: it appends a list of the model to what was gathered. -/
import Derived.Test.YtjbeloljbjfibaaRows
import Derived.Test.YtjbeloljbjfibaaLayer8
import Derived.Test.YtjbeloljbjfibaaConf
import Derived.Test.YtjbeloljbjfibaaBlank
import Derived.Test.YtjbeloljbjfibaaCfgRef
import Derived.Test.YtjbeloljbjfibaaSize
import Derived.Test.YtjbeloljbjfibaaSizes
import Derived.Test.YtjbeloljbjfibaaSteps
import Derived.Test.YtjbeloljbjfibaaClo54
import Derived.Test.YtjbeloljbjfibaaFill
import Derived.Test.YtjbeloljbjfibaaMods
import Derived.Test.YtjbeloljbjfibaaFills
import Derived.Test.YtjbeloljbjfibaaShape
import Derived.Test.YtjbeloljbjfibaaCheck
import Derived.Test.YtjbeloljbjfibaaChecks
import Derived.WalkKit
import Derived.ProofKit
import Derived.OpenShut
import Derived.Below
import Derived.WalkLawsBesides
import Derived.Deep.QuietTactic
import Derived.BigQuiet
import Derived.Deep.RegionWith
import Derived.Deep.RegionHeld3
import Derived.Deep.OwnRows
import Derived.Deep.RegionLaw
namespace Go.Proofs.Ytjbeloljbjfibaa
open Go.ChangeShapes Go.WideShapes Go.ChangeAt Go.RowKit
set_option linter.unusedVariables false


theorem step_copy {P : Program} {ops : Array Oper} {o : Oper} {a : Act} {w : World} {K : Act → World → Prop} {Q : Exit → Act → World → Prop} {E' : Prop} (hg : o.guard = none) (s x : Operand) (t : TypeId)
    (ho : o.op = .call { callee := .builtin .append, args := #[s, x], argTypes := #[t, t] })
    (base : Nat) (e : TypeId) (i : TypeInfo) (z : Value) (bytes : Nat) (ht : P.underlying t = some (.slice e)) (hi : P.info? e = some i) (hz : i.zero = some z)
    (hsize : i.size = 1) (hby : i.bytes = bytes) (hzs : z.cells.size = 1)
    (v : Value) (n : Nat) (xs : List Value) (hs : a.eval s = v) (hown : w.ownsRow base e 1 v n xs)
    (k : IntKind) (ao : Option Addr) (m c : Nat) (zs : List Int) (hx : a.eval x = .slice ao m c) (hr : Reads k w ao m zs) (hc : ao = none → c = 0)
    (h63 : n + m ≤ maxLen) (hbytes : (n + m) * bytes ≤ 140737488355328) (hbase : base ≤ w.heap.size)
    (h : ∀ v' w', w'.ownsRow base e 1 v' (n + m) (xs ++ zs.map (Value.int k)) → w.grownBy w' v.ownBlock → K (a.put o.dst v') w') :
    if Region.wanted o (yielded ops a.tmps) = true then Oper.wp P o a w K Q else E' := by
  have hw : Region.wanted o (yielded ops a.tmps) = true := by simp [Region.wanted, hg]
  rw [if_pos hw]
  cases ao with
  | none =>
    obtain rfl := hc rfl
    have hm : m = 0 := by
      by_cases h0 : 0 < m
      · obtain ⟨x, hx⟩ := hr.some_ h0
        cases hx
      · omega
    subst hm
    obtain rfl := List.eq_nil_of_length_eq_zero hr.len
    have hrun := run_append_owned_none (P := P) (w := w) base t o.type e i 1 ht hi v n xs hown
    unfold Oper.wp
    simp [execOp, ho, resolve, invoke, builtin, hs, hx, hrun, Result.andThen]
    exact h v w (by simpa using hown) (World.grownBy.refl _ _)
  | some ad =>
    refine wp_append_own w s x t ho base e i z 1 bytes ht hi hz hsize hby hzs (by decide) v n xs hs hown ad m c (zs.map (Value.int k)) hx (by rw [List.length_map, hr.len]; omega) (fun j u hu => ?_) (ints_oneCell _ _) h63 hbytes hbase fun v' w' h2 h3 _ => h v' w' h2 h3
    have hj : j < m := by
      have := (List.getElem?_eq_some_iff.1 hu).1
      rw [List.length_map, hr.len] at this
      exact this
    rw [hr.cell ad rfl j hj, ← hu]
    simp [hr.len, hj]

theorem own_form {w : World} {base n : Nat} {e : TypeId} {v : Value} {xs : List Value} (h : w.ownsRow base e 1 v n xs) : ∃ a c, v = .slice a n c := by
  rcases h.2 with ⟨h0, h1⟩ | ⟨g, cap, _, hv, _⟩
  · subst h1; exact ⟨_, _, h0⟩
  · exact ⟨_, _, hv⟩

theorem own_grown_lt {w : World} {base n : Nat} {e : TypeId} {v : Value} {xs : List Value} (h : w.ownsRow base e 1 v n xs) : ∀ g, v.ownBlock = some g → base ≤ g := fun g hg => (h.lt g hg).1

set_option maxHeartbeats 1000000 in
theorem closure45 (a : Addr) (vb base n : Nat) (va : Option Addr) (vc : Nat) (xs : List Value) (A : Option Addr) (k c : Nat) (zs : List Int) (cnt : Int) (W : World) (q : Blk 26 W vb #[.slice va n vc]) (own : W.ownsRow base 46 1 (.slice va n vc) n xs)
    (ha : W.cell? a = some (.slice A k c)) (rd : Reads .i8 W A k zs) (hA : A = none → c = 0) (hvb : vb < base) (hab : a.block < base) (hav : a.block ≠ vb) (hb : base ≤ W.heap.size) (hn : n + k ≤ 1000000) :
    Calls Try.prog 45 #[.pointer (some a), .int .i64 cnt, .pointer (some ⟨vb, 0, none⟩)] W fun r W' => r = .returned (.tuple #[]) ∧ ∃ va' vc', Blk 26 W' vb #[.slice va' (n + k) vc'] ∧ W'.ownsRow base 46 1 (.slice va' (n + k) vc') (n + k) (xs ++ zs.map (Value.int .i8)) ∧
      (∀ W0, W0.heap.size = base → Only vb W0 W → Only vb W0 W') := by
  obtain ⟨i0, hi, hz0, hz1, hz2⟩ := i46
  have c0 : W.cell? ⟨vb, 0, none⟩ = some (.slice va n vc) := q.cell 0 rfl
  have key : ∀ v' w', w'.ownsRow base 46 1 v' (n + k) (xs ++ zs.map (Value.int .i8)) → W.drew.grownBy w' (Value.slice va n vc).ownBlock → ∃ va' vc', v' = .slice va' (n + k) vc' ∧ w'.cell? ⟨vb, 0, none⟩ = some (.slice va n vc) ∧ w'.frozen? ⟨vb, 0, none⟩ = false ∧ w'.cell? a = some (.slice A k c) ∧
      Hid (Blk 26 (w'.setCell ⟨vb, 0, none⟩ (.slice va' (n + k) vc')) vb #[.slice va' (n + k) vc'] ∧ (w'.setCell ⟨vb, 0, none⟩ (.slice va' (n + k) vc')).ownsRow base 46 1 (.slice va' (n + k) vc') (n + k) (xs ++ zs.map (Value.int .i8)) ∧ (∀ W0, W0.heap.size = base → Only vb W0 W → Only vb W0 (w'.setCell ⟨vb, 0, none⟩ (.slice va' (n + k) vc')))) := fun v' w' ho hg => by
    obtain ⟨va', vc', rfl⟩ := own_form ho
    have lt := own_grown_lt own
    have bl : ∀ i, i < base → w'.heap[i]? = W.heap[i]? := fun i hi => hg.block i (Nat.lt_of_lt_of_le hi hb) (fun e => by have := lt i e.symm; omega)
    have q' : Blk 26 w' vb #[.slice va n vc] := (bl vb hvb).trans q
    refine ⟨va', vc', rfl, q'.cell 0 rfl, q'.open_ 0, ?_, q'.set 0 _, ownsRow_setCell_below ho hvb _, fun W0 hW0 o => ?_⟩
    · have : w'.cell? a = W.cell? a := World.cell?_of_block (bl a.block hab)
      rw [this]; exact ha
    · refine Only.trans ?_ (Only.set vb 0 w' _)
      have s1 : W.heap.size ≤ w'.heap.size := hg.size
      exact ⟨hg.os.trans o.os, hg.tape.trans o.tape, hg.output.trans o.output, Nat.le_trans o.size s1, fun i hi hne => (bl i (by omega)).trans (o.block i hi hne)⟩
  have HK := hidden_ key
  have rd' : Reads .i8 W.drew A k zs := ⟨rd.len, rd.max, rd.wf, rd.some_, rd.cell⟩
  have hb' : base ≤ W.drew.heap.size := hb
  clear key q
  go_enter Try.func45, Try.ntmps45
  go_wp2
  go_region_law (first
    | (with_reducible show if Region.wanted { dst := _, op := Op.call { callee := Callee.builtin Builtin.append, args := _, argTypes := _ }, type := _, pos := _, after := _, guard := _ } _ = true then _ else _; refine step_copy rfl (.tmp 5) (.tmp 8) 26 rfl base 46 i0 (.int .i8 0) 1 Try.underlying26 hi hz0 hz1 hz2 rfl (.slice va n vc) n xs (by simp [Act.eval]) own.drew .i8 A k c zs (by simp [Act.eval]) rd' hA (by unfold maxLen; omega) (by omega) hb' ?_; intro v1 W1 ho hg; obtain ⟨va1, vc1, rfl, g1, g2, g3, g4⟩ := HK.out v1 W1 ho hg; clear ho hg))
  all_goals
    go_wp2
    go_end0
    exact ⟨rfl, va1, vc1, g4.out⟩

end Go.Proofs.Ytjbeloljbjfibaa
