/- What is asked, as it is handed in. -/
import Derived.Test.YtcpnakghndfdpaaRows
import Derived.Test.YtcpnakghndfdpaaView
import Derived.Test.YtcpnakghndfdpaaAskA
import Derived.WalkKit
import Derived.ProofKit
import Derived.OpenShut
import Derived.Below
import Derived.Deep.QuietTactic
import Derived.BigQuiet
import Derived.WalkLawsBesides
import Derived.Deep.RegionWith
import Derived.Lib.SmallJoins
import Derived.Laws.FloatArith
import Derived.Laws.Externs
import Derived.Laws.BitsAllLaws
import Derived.ChangeOld
import Derived.ChangeMaps5
import Derived.SizedLaws
import Derived.Deep.Slices
namespace Go.Proofs.Ytcpnakghndfdpaa

set_option maxRecDepth 20000

open Go.ChangeShapes Go.WideShapes Go.ChangeAt Go.RowKit

set_option linter.unusedVariables false

set_option linter.unusedSimpArgs false

theorem ac28 : Try.prog.cellsOf 36 = 9 := by kernel_rfl

theorem ac24 : Try.prog.cellsOf 32 = 1 := by kernel_rfl

theorem ac25 : Try.prog.cellsOf 33 = 1 := by kernel_rfl

theorem ac26 : Try.prog.cellsOf 34 = 1 := by kernel_rfl

theorem ac3 : Try.prog.cellsOf 3 = 1 := by kernel_rfl

/-- how what is asked lies in memory -/
structure AkAt (w : World) (q : Aq) (zs : List Int) : Prop where
  ws : (Lit.int .u64 q.sd).wf = true
  wL : (Lit.int .i64 q.L).wf = true
  t : Reads .i64 w q.a q.n zs
  te : q.a = none → q.c = 0
  tl : q.n ≤ q.c

theorem array9 {α : Type} {cs : Array α} (h : cs.size = 9) : ∃ c0 c1 c2 c3 c4 c5 c6 c7 c8, cs = #[c0, c1, c2, c3, c4, c5, c6, c7, c8] := by
  obtain ⟨l⟩ := cs
  match l, h with
  | [c0, c1, c2, c3, c4, c5, c6, c7, c8], _ => exact ⟨c0, c1, c2, c3, c4, c5, c6, c7, c8, rfl⟩

section

variable {H : Type} {enc : TypeId × Value → H} {W : World}

theorem trod_f64 {base fuel : Nat} {spare : Nat → Bool} {held : Bool} {c : Value} {x : DataW H × List MemPlace} (h : DataW.trod enc Try.prog W base spare held fuel 34 [c] = some x) : ∃ b, c = .float .f64 b := by
  cases fuel with
  | zero => simp [DataW.trod] at h
  | succ n =>
    unfold DataW.trod at h
    rw [Try.underlying34] at h
    split at h <;> simp_all

theorem open_prompt {fuel : Nat} {c : Value} {x : DataW H × List MemPlace} (h : DataW.trod enc Try.prog W 0 (fun _ => true) true fuel 32 [c] = some x) :
    ∃ a n cp zs, c = .slice a n cp ∧ Reads .i64 W a n zs ∧ (a = none → cp = 0) ∧ n ≤ cp := by
  rcases open_ints Try.underlying32 Try.underlying3 (by kernel_rfl) h with ⟨hcs, hd⟩ | ⟨y, l, cp, zs, hcs, _, hl, hm, hz, hd, hcell, hwz⟩
  · obtain rfl : c = .slice none 0 0 := by simpa using hcs
    exact ⟨none, 0, 0, [], rfl, Reads.nil _ _, fun _ => rfl, Nat.le_refl _⟩
  · obtain rfl : c = .slice (some y) l cp := by simpa using hcs
    exact ⟨some y, l, cp, zs.take l, rfl, Reads.of_open hl hm (by simpa using hz) hcell hwz, (fun h => by cases h), hl⟩

theorem ask_cells {fuel : Nat} {c0 c1 c2 c3 c4 c5 c6 c7 c8 : Value} {x : DataW H × List MemPlace} (h : DataW.trod enc Try.prog W 0 (fun _ => true) true fuel 36 [c0, c1, c2, c3, c4, c5, c6, c7, c8] = some x) :
    ∃ q zs, [c0, c1, c2, c3, c4, c5, c6, c7, c8] = (Aq.cs q).toList ∧ AkAt W q zs := by
  obtain ⟨xs, n, -, ex, -, hlen, hg⟩ := DataW.trod_struct Try.underlying36 h
  have hl : xs.length = 9 := hlen.trans (by rfl)
  match xs, hl with
  | [x0, x1, x2, x3, x4, x5, x6, x7, x8], _ =>
  have one : ∀ (i : Nat) (f : Field) (c : Value) (x : DataW H × List MemPlace) (t : TypeId), f.type = t → ([c0, c1, c2, c3, c4, c5, c6, c7, c8].drop f.offset).take (Try.prog.cellsOf f.type) = [c] → some (DataW.trod enc Try.prog W 0 (fun _ => true) true n f.type (([c0, c1, c2, c3, c4, c5, c6, c7, c8].drop f.offset).take (Try.prog.cellsOf f.type))) = some (some x) → DataW.trod enc Try.prog W 0 (fun _ => true) true n t [c] = some x := fun i f c x t ht hc hh => by
    rw [hc, ht] at hh
    exact Option.some.inj hh
  have int : ∀ c x, DataW.trod enc Try.prog W 0 (fun _ => true) true n 3 [c] = some x → ∃ z, c = .int .i64 z ∧ (Lit.int .i64 z).wf = true := fun c x h => by
    obtain ⟨z, ez, -, wz⟩ := DataW.trod_int Try.underlying3 h
    exact ⟨z, by simpa using ez, wz⟩
  obtain ⟨z0, rfl, -⟩ := int c0 x0 (by rw [show [c0] = ([c0, c1, c2, c3, c4, c5, c6, c7, c8].drop 0).take (Try.prog.cellsOf 3) by rw [ac3]; rfl]; exact hg 0 _ rfl)
  obtain ⟨pa, pn, pc, zs, rfl, t1, t2, t3⟩ := open_prompt (c := c1) (x := x1) (fuel := n) (by rw [show [c1] = ([.int .i64 z0, c1, c2, c3, c4, c5, c6, c7, c8].drop 1).take (Try.prog.cellsOf 32) by rw [ac24]; rfl]; exact hg 1 _ rfl)
  obtain ⟨z2, rfl, w2⟩ := int c2 x2 (by rw [show [c2] = ([.int .i64 z0, .slice pa pn pc, c2, c3, c4, c5, c6, c7, c8].drop 2).take (Try.prog.cellsOf 3) by rw [ac3]; rfl]; exact hg 2 _ rfl)
  obtain ⟨z3, rfl, -⟩ := int c3 x3 (by rw [show [c3] = ([.int .i64 z0, .slice pa pn pc, .int .i64 z2, c3, c4, c5, c6, c7, c8].drop 3).take (Try.prog.cellsOf 3) by rw [ac3]; rfl]; exact hg 3 _ rfl)
  obtain ⟨z4, e4, -, w4⟩ := DataW.trod_int Try.underlying33 (show DataW.trod enc Try.prog W 0 (fun _ => true) true n 33 [c4] = some x4 by rw [show [c4] = ([.int .i64 z0, .slice pa pn pc, .int .i64 z2, .int .i64 z3, c4, c5, c6, c7, c8].drop 4).take (Try.prog.cellsOf 33) by rw [ac25]; rfl]; exact hg 4 _ rfl)
  obtain rfl : c4 = .int .u64 z4 := by simpa using e4
  obtain ⟨z5, rfl, -⟩ := int c5 x5 (by rw [show [c5] = ([.int .i64 z0, .slice pa pn pc, .int .i64 z2, .int .i64 z3, .int .u64 z4, c5, c6, c7, c8].drop 5).take (Try.prog.cellsOf 3) by rw [ac3]; rfl]; exact hg 5 _ rfl)
  obtain ⟨z6, rfl⟩ := trod_f64 (c := c6) (x := x6) (fuel := n) (show DataW.trod enc Try.prog W 0 (fun _ => true) true n 34 [c6] = some x6 by rw [show [c6] = ([.int .i64 z0, .slice pa pn pc, .int .i64 z2, .int .i64 z3, .int .u64 z4, .int .i64 z5, c6, c7, c8].drop 6).take (Try.prog.cellsOf 34) by rw [ac26]; rfl]; exact hg 6 _ rfl)
  obtain ⟨z7, rfl, -⟩ := int c7 x7 (by rw [show [c7] = ([.int .i64 z0, .slice pa pn pc, .int .i64 z2, .int .i64 z3, .int .u64 z4, .int .i64 z5, .float .f64 z6, c7, c8].drop 7).take (Try.prog.cellsOf 3) by rw [ac3]; rfl]; exact hg 7 _ rfl)
  obtain ⟨z8, rfl, -⟩ := int c8 x8 (by rw [show [c8] = ([.int .i64 z0, .slice pa pn pc, .int .i64 z2, .int .i64 z3, .int .u64 z4, .int .i64 z5, .float .f64 z6, .int .i64 z7, c8].drop 8).take (Try.prog.cellsOf 3) by rw [ac3]; rfl]; exact hg 8 _ rfl)
  exact ⟨⟨z0, pa, pn, pc, z2, z3, z4, z5, z6, z7, z8⟩, zs, rfl, ⟨w4, w2, t1, t2, t3⟩⟩

theorem open_ask {b0 : Nat} {r : Reach} {v : Value} {dd : DataW H} {p : List MemPlace} (hv : Value.okWide Try.prog W r b0 36 v) (h : DataW.Trod enc Try.prog W 0 (fun _ => true) true 36 v dd p) : ∃ q zs, v = Aq.w q ∧ AkAt W q zs := by
  obtain ⟨cs, rfl, hsz⟩ := okWide_struct Try.underlying36 hv
  obtain ⟨c0, c1, c2, c3, c4, c5, c6, c7, c8, rfl⟩ := array9 (hsz.trans ac28)
  obtain ⟨fuel, hf⟩ := h
  obtain ⟨q, zs, e, h⟩ := ask_cells (show DataW.trod enc Try.prog W 0 (fun _ => true) true fuel 36 [c0, c1, c2, c3, c4, c5, c6, c7, c8] = some (dd, p) by simpa [Value.cells] using hf)
  exact ⟨q, zs, congrArg (fun l : List Value => Value.agg l.toArray) e, h⟩

end

end Go.Proofs.Ytcpnakghndfdpaa
