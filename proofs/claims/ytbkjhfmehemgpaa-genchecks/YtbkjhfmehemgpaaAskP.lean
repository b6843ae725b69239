/- What is asked, with a prompt of its own. -/
import Derived.Test.YtbkjhfmehemgpaaRows
import Derived.Test.YtbkjhfmehemgpaaView
import Derived.Test.YtbkjhfmehemgpaaOwn
import Derived.Test.YtbkjhfmehemgpaaCfgs
import Derived.Test.YtbkjhfmehemgpaaSteps
import Derived.Test.YtbkjhfmehemgpaaRefTop
import Derived.Test.YtbkjhfmehemgpaaSetN
import Derived.Test.YtbkjhfmehemgpaaAskA
import Derived.Test.YtbkjhfmehemgpaaAskO
import Derived.WalkKit
import Derived.ProofKit
import Derived.OpenShut
import Derived.Below
import Derived.WalkLawsBesides
import Derived.Deep.QuietTactic
import Derived.BigQuiet
namespace Go.Proofs.Ytbkjhfmehemgpaa
set_option maxRecDepth 20000
open Go.ChangeShapes Go.WideShapes Go.ChangeAt Go.RowKit
set_option linter.unusedVariables false
set_option linter.unusedSimpArgs false

theorem Blk.fro9 {t : TypeId} {w : World} {b : Nat} {cs : Array Value} (h : Blk t w b cs) : w.frozen? ⟨b, 0, none⟩ = false ∧ w.frozen? ⟨b, 1, none⟩ = false ∧ w.frozen? ⟨b, 2, none⟩ = false ∧ w.frozen? ⟨b, 3, none⟩ = false ∧ w.frozen? ⟨b, 4, none⟩ = false ∧ w.frozen? ⟨b, 5, none⟩ = false ∧ w.frozen? ⟨b, 6, none⟩ = false ∧ w.frozen? ⟨b, 7, none⟩ = false ∧ w.frozen? ⟨b, 8, none⟩ = false :=
  ⟨h.open_ 0, h.open_ 1, h.open_ 2, h.open_ 3, h.open_ 4, h.open_ 5, h.open_ 6, h.open_ 7, h.open_ 8⟩
abbrev ask0 : Aq := ⟨0, none, 0, 0, 0, 0, 0, 0, 0, 0, 0⟩
abbrev Aq.with (q : Aq) (a : Option Addr) (c : Nat) : Aq := ⟨q.k, a, q.n, c, q.L, q.S, q.sd, q.T, q.H, q.B, q.E⟩
theorem Aq.set1 (q : Aq) (p : Option Addr) (c : Nat) : q.cs.setIfInBounds 1 (.slice p q.n c) = (q.with p c).cs := rfl
theorem own_store {q : Aq} {w W1 : World} {B : Nat} {p : Option Addr} {c : Nat} {zs : List Int} {xs : List Value} (q0 : Blk 28 W1 B q.cs) (q1 : Blk 28 W1 (B + 1) ask0.cs) (r : Reads .i64 W1 p q.n zs) (hB : w.heap.size ≤ B) (hb : Below w.heap.size w W1) :
    ∃ V, W1.setCell ⟨B, 1, none⟩ (.slice p q.n c) = V ∧ Blk 28 V B (q.with p c).cs ∧ Blk 28 V (B + 1) ask0.cs ∧ Reads .i64 V p q.n zs ∧ Below w.heap.size w V := by
  refine ⟨_, rfl, ?_, ?_, r.store q0.ask.2.1 _, hb.setCell hB _⟩
  · rw [← q.set1]
    exact q0.set 1 _
  · exact (Below.heap_setCell _ _ _ _ (by simp)).trans q1

set_option maxHeartbeats 4000000 in
/-- what is asked, with a prompt of its own -/
theorem ownAsk_call (q : Aq) (zs : List Int) (w : World) (h : AkAt w q zs) (hn : q.n ≤ 1000) :
    Calls Try.prog 5 #[q.w] w fun e w' => (∃ a c, e = .returned (Aq.w (q.with a c)) ∧ AkAt w' (q.with a c) zs) ∧ Below w.heap.size w w' := by
  have hb := below_new (below_new (Below.refl w.heap.size w) (.cells q.cs 28)) (.cells ask0.cs 28)
  have q0 : Blk 28 ((w.alloc (.cells q.cs 28)).alloc (.cells ask0.cs 28)) w.heap.size q.cs := (Blk.new 28 w _).kept (below_new (Below.refl _ _) _)
  have q1 : Blk 28 ((w.alloc (.cells q.cs 28)).alloc (.cells ask0.cs 28)) (w.heap.size + 1) ask0.cs := by simpa using Blk.new 28 (w.alloc (.cells q.cs 28)) ask0.cs
  have hsz : ((w.alloc (.cells q.cs 28)).alloc (.cells ask0.cs 28)).heap.size = w.heap.size + 2 := by simp
  obtain ⟨W, eW⟩ : ∃ W, (w.alloc (.cells q.cs 28)).alloc (.cells ask0.cs 28) = W := ⟨_, rfl⟩
  rw [eW] at hb q0 q1 hsz
  have hr := h.t.below hb
  have i3 := info3
  obtain ⟨i0, hi, hz0, hz1, hz2⟩ : ∃ i, Try.prog.info? 3 = some i ∧ i.zero = some (.int .i64 0) ∧ i.size = 1 ∧ i.bytes = 8 := by
    cases e : Try.prog.info? 3 with
    | none => rw [e] at i3; cases i3
    | some i => rw [e] at i3; simp at i3; exact ⟨i, rfl, i3.1, i3.2.1, i3.2.2⟩
  clear i3
  have HZ := hidden_ hsz
  clear hsz
  have wz : w.heap.size < W.heap.size := q0.lt
  obtain ⟨a0, a1, a2, a3, a4, a5, a6, a7, a8⟩ := (q0.kept (below_new (Below.refl _ W) (.cells #[] 3))).ask
  have kf : ∀ (w : World) (a : Addr) (x : Nat) (m : Mode), (store a (.float .f64 x) m).run Try.prog w = stored Try.prog w a (.float .f64 x) m := fun w a x m => run_store Try.prog w a _ m rfl
  go_enter Try.func5, Try.ntmps5
  go_wp2_with (at_builtin; refine wpList_copy rfl (.tmp 3) (.tmp 5) 24 rfl W.heap.size 3 i0 (.int .i64 0) 8 Try.underlying24 hi hz0 hz1 hz2 rfl _ 0 [] rfl (World.ownsRow_lit _ #[] 0 (Nat.le_refl _) (by decide) rfl) .i64 q.a q.n q.c zs rfl (hr.below (below_new (Below.refl _ _) _)) h.te (by unfold maxLen; omega) (by omega) (below_new (Below.refl _ _) _).size ?_; intro v1 W1 ho1 hg1; have hob := ho1; obtain ⟨p1, c1, rfl, r1, hb1, e1, cap1⟩ := copied (Below.refl W.heap.size W) _ ho1 hg1 hr; clear ho1 hg1 a0 a1 a2 a3 a4 a5 a6 a7 a8; have q0' := q0.kept hb1; have q1' := q1.kept hb1; have hb' := below_then hb hb1; have a1 := q0'.ask.2.1; have f1 := q0'.open_ 1; obtain ⟨V, eV, q2, q3, rV, hbV⟩ := own_store (xs := []) (c := c1) q0' q1' r1 (Nat.le_refl _) hb'; have ne := own_type hob q1' (by decide); clear hob; have hrV := hidden_ (And.intro rV (And.intro e1 (And.intro cap1 (And.intro q3 (And.intro hbV ne))))); clear q0' q1' hb' q0 q1 hb hb1 hr r1 rV e1 cap1 ne hbV; obtain ⟨a0, b1, a2, a3, a4, a5, a6, a7, a8⟩ := q2.ask; obtain ⟨x0, x1, x2, x3, x4, x5, x6, x7, x8⟩ := q3.ask; obtain ⟨g0, g1, g2, g3, g4, g5, g6, g7, g8⟩ := q3.fro9; clear q2 q3)
  obtain ⟨rV, e1, cap1, q3, hbV, ne⟩ := hrV.out
  have q4 := setFrom_all q3 (Aq.cs (q.with p1 c1)).toList rfl
  have r4 : Reads .i64 (setFrom (w.heap.size + 1) 0 (Aq.cs (q.with p1 c1)).toList V) p1 q.n zs := rV.setFrom (t := 3) fun x hx _ => ne x hx
  have b4 := setFrom_below (w.heap.size + 1) (Nat.le_succ _) (Aq.cs (q.with p1 c1)).toList 0 w V hbV
  obtain ⟨y0, y1, y2, y3, y4, y5, y6, y7, y8⟩ := Blk.ask (q := q.with p1 c1) q4
  obtain ⟨V4, eV4⟩ : ∃ V4, setFrom (w.heap.size + 1) 0 (Aq.cs (q.with p1 c1)).toList V = V4 := ⟨_, rfl⟩
  rw [eV4] at r4 b4 y0 y1 y2 y3 y4 y5 y6 y7 y8
  simp only [setFrom] at eV4
  rw [eV4]
  refine bodyPost_ret (v := Aq.w (q.with p1 c1)) ?_ rfl ⟨⟨p1, c1, rfl, ⟨h.ws, h.wL, r4, e1, cap1⟩⟩, b4⟩
  simp [results, Try.results5, go_sem, y0, y1, y2, y3, y4, y5, y6, y7, y8]

end Go.Proofs.Ytbkjhfmehemgpaa
