/- Costs, and what was served. -/
import Derived.Test.YtkjmlbllpnehlaaRows
import Derived.Test.YtkjmlbllpnehlaaView
import Derived.Test.YtkjmlbllpnehlaaOwn
import Derived.Test.YtkjmlbllpnehlaaBase
import Derived.Test.YtkjmlbllpnehlaaFkZ
import Derived.Test.YtkjmlbllpnehlaaFkNew
import Derived.WalkKit
import Derived.ProofKit
import Derived.OpenShut
import Derived.Below
import Derived.WalkLawsBesides
import Derived.Deep.QuietTactic
import Derived.BigQuiet
import Derived.Maps.AppendAt
import Derived.Maps.OwnSet
import Derived.Laws.MakeOwn
import Derived.OwnWalk
import Derived.Laws.OwnMore
namespace Go.Proofs.Ytkjmlbllpnehlaa
set_option maxRecDepth 20000
open Go.ChangeShapes Go.WideShapes Go.ChangeAt Go.RowKit
set_option linter.unusedVariables false
set_option linter.unusedSimpArgs false

theorem info3s : ∃ i, Try.prog.info? 3 = some i ∧ i.zero = some (.int .i64 0) ∧ i.size = 1 ∧ i.bytes = 8 := by
  obtain ⟨i, hi, hz⟩ := Option.map_eq_some_iff.1 info3
  simp only [Prod.mk.injEq] at hz
  exact ⟨i, hi, hz.1, hz.2.1, hz.2.2⟩
theorem ownBlk {a : Option Addr} {l c k : Nat} (h : (Value.slice a l c).ownBlock = some k) : blkOf a k := by
  cases a with
  | none => cases h
  | some y => exact ⟨y, rfl, by simpa [Value.ownBlock] using h⟩
/-- one number more in a row of its own -/
theorem append1 {B : Nat} {w : World} {a : Option Addr} {l c : Nat} {zs : List Int} (h : RowI B w a l c zs) (hB : B ≤ w.heap.size) (hl : l ≤ 1000) (z : Int) (hz : (Lit.int .i64 z).wf = true) :
    ∃ a' c' W2, (Builtin.append_ #[22, 22] 22 #[.slice a l c, .slice (some ⟨w.heap.size, 0, none⟩) 1 1]).run Try.prog (w.alloc (.cells #[.int .i64 z] 3)) = .ok (.slice a' (l + 1) c') W2 ∧
      RowI B W2 a' (l + 1) c' (zs ++ [z]) ∧ Below B w W2 := by
  obtain ⟨i0, hi, hz0, hz1, hz2⟩ := info3s
  have hown : (w.alloc (.cells #[.int .i64 z] 3)).ownsRow B 3 1 (.slice a l c) l (zs.map (Value.int .i64)) := h.own.alloc _
  have hsz : B ≤ (w.alloc (.cells #[.int .i64 z] 3)).heap.size := Nat.le_trans hB (below_new (Below.refl w.heap.size w) _).size
  obtain ⟨v', w', hr, ho, hg, _, hb⟩ := run_append_own_at (P := Try.prog) (w := (w.alloc (.cells #[.int .i64 z] 3))) B 22 22 3 i0 _ 1 8 Try.underlying22 hi hz0 hz1 hz2 rfl (by decide) _ l _ hown ⟨w.heap.size, 0, none⟩ 1 1 [.int .i64 z] rfl (one_new w _ 3) (one_oneCell _ _) (by unfold maxLen; omega) (by omega) hsz
  obtain ⟨a', c', rfl⟩ := own_form ho
  refine ⟨a', c', w', hr, ⟨by simp [h.len], by simpa using ho, fun u hu => ?_⟩, ?_⟩
  · rcases List.mem_append.1 hu with hu | hu
    · exact h.wf u hu
    · simp at hu; subst hu; exact hz
  · have h1 := below_new (Below.refl w.heap.size w) (.cells #[.int .i64 z] 3)
    have h2 : Below B w (w.alloc (.cells #[.int .i64 z] 3)) := h1.mono hB
    refine h2.trans ⟨hg.os, hg.tape, hg.output, hg.size, fun k hk => hg.block k (Nat.lt_of_lt_of_le hk hsz) fun e => ?_⟩
    have := (own_blk h.own (ownBlk e.symm)).1
    omega
def okC (zs : List Int) : Prop := ∀ z ∈ zs, 1 ≤ z ∧ z ≤ 10000
theorem price_call {w : World} {a : Option Addr} {n c : Nat} {zs : List Int} (h : Reads .i64 w a n zs) :
    Calls Try.prog 20 #[.slice a n c] w fun e w' => ∃ p l c' ps, e = .returned (.slice p l c') ∧ Hid (RowI w.heap.size w' p l c' ps ∧ okC ps) ∧ Below w.heap.size w w' ∧ 1 ≤ l ∧ l ≤ 51 := by
  have hmax := h.max
  have HR := hidden_ h
  have h7 := hidden_ (show RowI w.heap.size (w.alloc (.cells #[.int .i64 7] 3)) (some ⟨w.heap.size, 0, none⟩) 1 1 [7] from
    ⟨rfl, World.ownsRow_lit (base := w.heap.size) (size := 1) w #[.int .i64 7] 1 (Nat.le_refl _) (by unfold maxLen; omega) rfl, by intro z hz; simp at hz; subst hz; decide⟩)
  have hb7 := hidden_ (below_new (Below.refl w.heap.size w) (.cells #[.int .i64 7] 3))
  clear h
  go_enter Try.func20, Try.ntmps20
  go_wp2
  go_loopw [3, 4] (fun q i wr => ∃ k : Nat, k ≤ n ∧ k ≤ 50 ∧ i = .int .i64 k ∧ ∃ p c' ps, q = .slice p (k + 1) c' ∧ Hid (RowI w.heap.size wr p (k + 1) c' ps ∧ okC ps ∧ Below w.heap.size w wr)) (fun _ i _ => n - (intOf i).toNat)
  case atStart => exact ⟨0, Nat.zero_le _, Nat.zero_le _, rfl, _, _, _, rfl, h7.out, by intro z hz; simp at hz; omega, hb7.out⟩
  case round =>
    clear h7 hb7
    obtain ⟨k, hk, hk', rfl, p, c', ps, rfl, hS⟩ := hrel
    by_cases hlt : k < n ∧ k < 50
    · obtain ⟨y1, y2⟩ := hlt
      have y1' : (k : Int) < (n : Int) := by omega
      have y2' : (k : Int) < 50 := by omega
      obtain ⟨x, rfl⟩ := HR.out.some_ (by omega)
      have cx := (HR.out.below hS.out.2.2).cell x rfl k y1
      obtain ⟨u, eu⟩ : ∃ u, zs.getD k 0 = u := ⟨_, rfl⟩
      rw [eu] at cx
      obtain ⟨P, eP⟩ : ∃ P, x.add k = P := ⟨_, rfl⟩
      rw [eP] at cx
      obtain ⟨M, hM, m1, m2⟩ := restN u 10000 (by decide)
      replace m1 := show (IntKind.u64.wrap u).tmod 10000 = (M : Int) from m1
      replace m2 := show IntKind.u64.wrap u % 10000 = (M : Int) from m2
      obtain ⟨V, eV⟩ : ∃ V : Int, 1 + (M : Int) = V := ⟨_, rfl⟩
      have hV : 1 ≤ V ∧ V ≤ 10000 := by omega
      obtain ⟨a2, c2, W2, hap, hr2, hb2⟩ := append1 hS.out.1 hS.out.2.2.size (by omega) V (wf_i64 (by omega) (by omega))
      have HN := hidden_ (show RowI w.heap.size W2 a2 (k + 1 + 1) c2 (ps ++ [V]) ∧ okC (ps ++ [V]) ∧ Below w.heap.size w W2 from ⟨hr2, fun z hz => by
        rcases List.mem_append.1 hz with hz | hz
        · exact hS.out.2.1 z hz
        · simp at hz; subst hz; exact hV, hS.out.2.2.trans hb2⟩)
      clear hr2 hb2 hS eu
      go_wp2_with (at_builtin; refine wpList_append_run rfl (.tmp 16) (.tmp 25) 22 rfl 22 rfl _ _ rfl rfl _ _ hap ?_)
      go_roundw
      case rel => exact ⟨k + 1, by omega, by omega, by go_num, _, _, _, rfl, HN⟩
      case measure => simp [intOf]; omega
    · have hF := hidden_ (show RowI w.heap.size wr p (k + 1) c' ps ∧ okC ps from ⟨hS.out.1, hS.out.2.1⟩)
      have hB := hidden_ hS.out.2.2
      clear hS
      by_cases y1 : k < n
      · have y1' : (k : Int) < (n : Int) := by omega
        have y2' : ¬ (k : Int) < 50 := by omega
        clear hlt
        go_wp2
        go_ret
        exact ⟨p, k + 1, c', rfl, ⟨ps, hF⟩, hB.out, by omega, by omega⟩
      · have y1' : ¬ (k : Int) < (n : Int) := by omega
        clear hlt
        go_wp2
        go_ret
        exact ⟨p, k + 1, c', rfl, ⟨ps, hF⟩, hB.out, by omega, by omega⟩

/-- a row of what was served, in a block of its own -/
structure Srv (B : Nat) (w : World) (g : Nat) (sv : List Int) : Prop where
  ge : B ≤ g
  row : ∃ m, Row 3 w g m
  at_ : ∀ i, i < sv.length → w.cell? ⟨g, i, none⟩ = some (.int .i64 (sv.getD i 0))
theorem Srv.lt {B : Nat} {w : World} {g : Nat} {sv : List Int} (h : Srv B w g sv) : g < w.heap.size := by
  obtain ⟨m, r⟩ := h.row
  exact r.lt
theorem Srv.kept {B : Nat} {w w' : World} {g : Nat} {sv : List Int} (h : Srv B w g sv) (e : w'.heap[g]? = w.heap[g]?) : Srv B w' g sv := by
  obtain ⟨m, r⟩ := h.row
  exact ⟨h.ge, ⟨m, r.of_block e⟩, fun i hi => (cell_of_block e i).trans (h.at_ i hi)⟩
theorem Srv.off {B B' : Nat} {T : TypeId → Bool} {w w' : World} {g : Nat} {sv : List Int} (h : Srv B w g sv) (o : Off B' T w w') (hT : T 3 = false) : Srv B w' g sv := by
  obtain ⟨m, r⟩ := h.row
  exact h.kept (o.row r hT)
theorem Srv.below {B : Nat} {w w' : World} {g : Nat} {sv : List Int} (h : Srv B w g sv) (hb : Below w.heap.size w w') : Srv B w' g sv := h.kept (hb.block g h.lt)
theorem set_getD (sv : List Int) (i : Nat) (v : Int) (hi : i < sv.length) (j : Nat) : (sv.set i v).getD j 0 = if j = i then v else sv.getD j 0 := by
  simp only [List.getD, List.getElem?_set]
  by_cases e : i = j
  · subst e
    simp [hi]
  · rw [if_neg e, if_neg (fun x => e x.symm)]
theorem Srv.set {B : Nat} {w : World} {g : Nat} {sv : List Int} (h : Srv B w g sv) {i : Nat} (hi : i < sv.length) (v : Int) : Srv B (w.setCell ⟨g, i, none⟩ (.int .i64 v)) g (sv.set i v) := by
  obtain ⟨m, r⟩ := h.row
  refine ⟨h.ge, ⟨m, r.set i _⟩, fun j hj => ?_⟩
  rw [List.length_set] at hj
  rw [set_getD sv i v hi]
  by_cases e : j = i
  · subst e
    rw [if_pos rfl]
    exact World.cell?_setCell_same _ _ _ (h.at_ j hi)
  · rw [if_neg e]
    exact (World.cell?_setCell_other _ _ _ _ (by simp [e])).trans (h.at_ j hj)
theorem madeI (n : Nat) (hn : n ≤ 256) (w : World) : (Instr.makeSlice 22 (.int .i64 (n : Int)) (.int .i64 (n : Int))).run Try.prog w = .ok (.slice (some ⟨w.heap.size, 0, none⟩) n n) (w.alloc (.cells (madeCells [Value.int .i64 0].toArray n) 3)) := by
  obtain ⟨i, hi, hz, hs, hb⟩ := info3s
  have := run_make (P := Try.prog) w 22 3 i _ Try.underlying22 hi hz .i64 .i64 n n (by omega) (by omega) (by rw [hb]; omega) (by omega)
  rw [hs, Nat.mul_one] at this
  simp only [Int.toNat_natCast] at this
  exact this
theorem srv_made (w : World) (n B : Nat) (hB : B ≤ w.heap.size) : Srv B (w.alloc (.cells (madeCells [Value.int .i64 0].toArray n) 3)) w.heap.size (List.replicate n 0) := by
  refine ⟨hB, ⟨n, _, heap_alloc_new w _, size_madeCells _ _⟩, fun i hi => ?_⟩
  rw [List.length_replicate] at hi
  have := made_at w [.int .i64 0] 1 n i 0 3 (.int .i64 0) rfl (by decide) (by omega) rfl
  rw [Nat.mul_one, Nat.add_zero] at this
  rw [this]
  simp [List.getD, hi]

end Go.Proofs.Ytkjmlbllpnehlaa
