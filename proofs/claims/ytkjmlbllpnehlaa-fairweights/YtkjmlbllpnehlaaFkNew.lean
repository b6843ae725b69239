/- New. -/
import Derived.Test.YtkjmlbllpnehlaaRows
import Derived.Test.YtkjmlbllpnehlaaView
import Derived.Test.YtkjmlbllpnehlaaOwn
import Derived.Test.YtkjmlbllpnehlaaBase
import Derived.Test.YtkjmlbllpnehlaaFkZ
import Derived.Test.YtkjmlbllpnehlaaFkBy
import Derived.Test.YtkjmlbllpnehlaaFkAt
import Derived.Test.YtkjmlbllpnehlaaFkRd
import Derived.WalkKit
import Derived.ProofKit
import Derived.OpenShut
import Derived.Below
import Derived.WalkLawsBesides
import Derived.Deep.QuietTactic
import Derived.BigQuiet
import Derived.Laws.MakeOwn
import Derived.OwnWalk
namespace Go.Proofs.Ytkjmlbllpnehlaa
set_option maxRecDepth 20000
open Go.ChangeShapes Go.WideShapes Go.ChangeAt Go.RowKit
set_option linter.unusedVariables false
set_option linter.unusedSimpArgs false

def noW (z : Int) : Bool := decide (z < 1) || decide (16 < z)
def okW (zs : List Int) : Bool := decide (1 ≤ zs.length) && decide (zs.length ≤ 4) && !zs.any noW
def newF (zs : List Int) : Fr := ⟨zs.length, fun i => zs.getD i 0, fun _ => 0, [], 0⟩
theorem newF_ok {zs : List Int} (h : okW zs = true) : FrOk 0 (newF zs) := by
  simp only [okW, Bool.and_eq_true, decide_eq_true_eq, Bool.not_eq_true', List.any_eq_false] at h
  obtain ⟨⟨h1, h2⟩, h3⟩ := h
  refine ⟨h1, h2, fun i hi => ?_, fun i hi => ⟨Int.le_refl _, Int.le_refl _⟩, Int.le_refl _, Int.le_refl _, fun x hx => (by cases hx), List.nodup_nil, fun t => Nat.zero_le _⟩
  show 1 ≤ zs.getD i 0 ∧ zs.getD i 0 ≤ 16
  have hi' : i < zs.length := hi
  have := h3 zs[i] (List.getElem_mem hi')
  simp only [noW, Bool.or_eq_true, decide_eq_true_eq, not_or] at this
  rw [show zs.getD i 0 = zs[i] by simp [List.getD, hi']]
  omega
theorem isno_call (z : Int) (w : World) : Calls Try.prog 22 #[.int .i64 z] w fun e w' => e = .returned (.bool (noW z)) ∧ w' = w := by
  by_cases h0 : z < 1
  · have e : noW z = true := by simp [noW, h0]
    rw [e]
    clear e
    go_enter Try.func22, Try.ntmps22
    go_wp2
    go_ret
    exact ⟨rfl, rfl⟩
  · by_cases h1 : 16 < z
    · have e : noW z = true := by simp [noW, h1]
      rw [e]
      clear e
      go_enter Try.func22, Try.ntmps22
      go_wp2
      go_ret
      exact ⟨rfl, rfl⟩
    · have e : noW z = false := by simp [noW]; omega
      rw [e]
      clear e
      go_enter Try.func22, Try.ntmps22
      go_wp2
      go_ret
      exact ⟨rfl, rfl⟩
theorem indexW_call {w : World} {a : Option Addr} {n c : Nat} {zs : List Int} (h : Reads .i64 w a n zs) :
    Calls Try.prog 30 #[.slice a n c, .func (.func 22) #[] #[]] w fun e w' => (∃ r : Int, e = .returned (.int .i64 r) ∧ decide (0 ≤ r) = zs.any noW ∧ -1 ≤ r ∧ r ≤ 9223372036854775807) ∧ w' = w := by
  have HR := hidden_ h
  have hmax := h.max
  have hlen := hidden_ h.len
  clear h
  go_enter Try.func30, Try.ntmps30
  go_wp2
  go_loopw [8] (fun i wr => ∃ k : Nat, k ≤ n ∧ i = .int .i64 k ∧ (∀ j, j < k → noW (zs.getD j 0) = false) ∧ wr = w) (fun i _ => n - (intOf i).toNat)
  case atStart => exact ⟨0, Nat.zero_le _, rfl, fun j hj => by omega, rfl⟩
  case round =>
    obtain ⟨k, hk, rfl, hno, rfl⟩ := hrel
    have HN := hidden_ hno
    clear hno
    by_cases hlt : k < n
    · obtain ⟨y, rfl⟩ := HR.out.some_ (by omega)
      have cy := HR.out.cell y rfl k hlt
      obtain ⟨t, et⟩ : ∃ t, zs.getD k 0 = t := ⟨_, rfl⟩
      rw [et] at cy
      have kI := fun W => isno_call t W
      have ET := hidden_ et
      clear et
      cases hb : noW t with
      | true =>
        rw [hb] at kI
        have hany : zs.any noW = true := List.any_eq_true.2 ⟨t, by rw [← ET.out, show zs.getD k 0 = zs[k]'(by rw [hlen.out]; exact hlt) by simp [List.getD, show k < zs.length by rw [hlen.out]; exact hlt]]; exact List.getElem_mem _, hb⟩
        have HA := hidden_ hany
        clear hb hany
        go_wp2_with (go_at_call 22; refine (kI _).mono ?_; rintro e W1 ⟨rfl, h1⟩; obtain rfl := h1.symm)
        go_ret
        exact ⟨⟨_, rfl, by rw [HA.out]; simp, by omega, by omega⟩, rfl⟩
      | false =>
        rw [hb] at kI
        have HB := hidden_ hb
        clear hb
        go_wp2_with (go_at_call 22; refine (kI _).mono ?_; rintro e W1 ⟨rfl, h1⟩; obtain rfl := h1.symm)
        go_roundw
        case rel =>
          refine ⟨k + 1, by omega, by go_num, fun j hj => ?_, trivial⟩
          by_cases e : j = k
          · subst e
            rw [ET.out]
            exact HB.out
          · exact HN.out j (by omega)
        case measure => simp [intOf]; omega
    · have e : k = n := by omega
      subst e
      have hany : zs.any noW = false := List.any_eq_false.2 fun x hx => by
        obtain ⟨j, hj, rfl⟩ := List.getElem_of_mem hx
        have := HN.out j (by rw [← hlen.out]; exact hj)
        rw [show zs.getD j 0 = zs[j] by simp [List.getD, hj]] at this
        rw [this]
        decide
      have HA := hidden_ hany
      clear hany
      go_wp2
      go_ret
      exact ⟨⟨_, rfl, by rw [HA.out]; simp, by omega, by omega⟩, rfl⟩
theorem contains_call {w : World} {a : Option Addr} {n c : Nat} {zs : List Int} (h : Reads .i64 w a n zs) :
    Calls Try.prog 21 #[.slice a n c, .func (.func 22) #[] #[]] w fun e w' => e = .returned (.bool (zs.any noW)) ∧ w' = w := by
  have k := indexW_call h (c := c)
  clear h
  obtain ⟨b, eb⟩ : ∃ b, zs.any noW = b := ⟨_, rfl⟩
  rw [eb] at k ⊢
  clear eb
  go_enter Try.func21, Try.ntmps21
  go_wp2_with (go_at_call 30; refine k.mono ?_; rintro e W1 ⟨⟨r, rfl, h1, h2, h3⟩, hw⟩; obtain rfl := hw.symm)
  go_ret
  exact ⟨by rw [← h1]; rfl, rfl⟩

theorem new_no {w : World} {a : Option Addr} {n c : Nat} {zs : List Int} (h : Reads .i64 w a n zs) (hno : okW zs = false) :
    Calls Try.prog 7 #[.slice a n c] w fun e w' => e = .returned (.tuple #[.pointer none, .int .i64 20]) ∧ w' = w := by
  have k := contains_call h (c := c)
  have hlen := h.len
  have hmax := h.max
  unfold okW at hno
  rw [hlen] at hno
  clear h
  by_cases h0 : n < 1
  · clear hno
    go_enter Try.func7, Try.ntmps7
    go_wp2
    go_ret2
    exact ⟨rfl, rfl⟩
  · by_cases h1 : 4 < n
    · have h1' : (4 : Int) < (n : Int) := by omega
      clear hno
      go_enter Try.func7, Try.ntmps7
      go_wp2
      go_ret2
      exact ⟨rfl, rfl⟩
    · have hb : zs.any noW = true := by
        rw [show decide (1 ≤ n) = true by simp; omega, show decide (n ≤ 4) = true by simp; omega] at hno
        simpa using hno
      rw [hb] at k
      have h1' : ¬ (4 : Int) < (n : Int) := by omega
      have h0' : ¬ (n : Int) < 1 := by omega
      clear hno hb hlen
      go_enter Try.func7, Try.ntmps7
      go_wp2_with (go_at_call 21; refine k.mono ?_; rintro e W1 ⟨rfl, hw⟩; obtain rfl := hw.symm)
      go_ret2
      exact ⟨rfl, rfl⟩

def z3 : List Value := [.int .i64 0, .int .i64 0, .slice none 0 0]
theorem info55z : ∃ i, Try.prog.info? 55 = some i ∧ i.zero = some (.agg z3.toArray) ∧ i.size = 3 ∧ i.bytes = 40 := by
  have h : (Try.prog.info? 55).map (fun i => (i.zero, i.size, i.bytes)) = some (some (.agg z3.toArray), 3, 40) := by kernel_rfl
  obtain ⟨i, hi, hz⟩ := Option.map_eq_some_iff.1 h
  simp only [Prod.mk.injEq] at hz
  exact ⟨i, hi, hz.1, hz.2.1, hz.2.2⟩
def zeros3 (n : Nat) : Obj := .cells (madeCells z3.toArray (n * 3)) 55
theorem made3 (n : Nat) (hn : n ≤ 256) (w : World) : (Instr.makeSlice 50 (.int .i64 (n : Int)) (.int .i64 (n : Int))).run Try.prog w = .ok (.slice (some ⟨w.heap.size, 0, none⟩) n n) (w.alloc (zeros3 n)) := by
  obtain ⟨i, hi, hz, hs, hb⟩ := info55z
  have := run_make (P := Try.prog) w 50 55 i _ Try.underlying50 hi hz .i64 .i64 n n (by omega) (by omega) (by rw [hb]; omega) (by omega)
  rw [hs] at this
  simp only [Int.toNat_natCast] at this
  exact this
theorem made_at (w : World) (z : List Value) (k m i j : Nat) (t : TypeId) (v : Value) (hk : z.length = k) (hj : j < k) (hi : i * k + j < m) (hv : z[j]? = some v) : (w.alloc (.cells (madeCells z.toArray m) t)).cell? ⟨w.heap.size, i * k + j, none⟩ = some v := by
  have e : (w.alloc (.cells (madeCells z.toArray m) t)).heap[w.heap.size]? = some (.cells (madeCells z.toArray m) t) := heap_alloc_new w _
  unfold World.cell?
  rw [e]
  have e1 : (i * k + j) % z.toArray.size = j := by
    rw [List.size_toArray, hk, Nat.add_comm, Nat.add_mul_mod_self_right, Nat.mod_eq_of_lt hj]
  have e2 : z.toArray[j]! = v := by
    obtain ⟨h1, h2⟩ := List.getElem?_eq_some_iff.1 hv
    simp [h1, h2]
  simp only [madeCells, Option.isSome_none, Bool.false_eq_true, if_false]
  rw [Array.getElem?_map, Array.getElem?_range, if_pos hi, Option.map_some, e1, e2]
/-- the first k weights are laid in -/
def wtF (zs : List Int) (k : Nat) : Fr := ⟨zs.length, fun i => if i < k then zs.getD i 0 else 0, fun _ => 0, [], 0⟩
theorem new_at (B : Nat) (w : World) (zs : List Int) (hB : B ≤ w.heap.size) (o : Array Value) (ho : o = #[.slice (some ⟨w.heap.size, 0, none⟩) zs.length zs.length, .int .i64 0]) :
    FrAt B ((w.alloc (zeros3 zs.length)).alloc (.cells o 52)) (w.heap.size + 1) w.heap.size (fun _ => ⟨none, 0⟩) (wtF zs 0) := by
  subst ho
  have hs : (w.alloc (zeros3 zs.length)).heap.size = w.heap.size + 1 := by simp
  have hb := below_new (Below.refl _ (w.alloc (zeros3 zs.length))) (.cells #[.slice (some ⟨w.heap.size, 0, none⟩) zs.length zs.length, .int .i64 0] 52)
  have e : ((w.alloc (zeros3 zs.length)).alloc (.cells #[.slice (some ⟨w.heap.size, 0, none⟩) zs.length zs.length, .int .i64 0] 52)).heap[w.heap.size + 1]? = some (.cells #[.slice (some ⟨w.heap.size, 0, none⟩) zs.length zs.length, .int .i64 0] 52) := by
    rw [← hs]
    exact heap_alloc_new _ _
  have eg : ((w.alloc (zeros3 zs.length)).alloc (.cells #[.slice (some ⟨w.heap.size, 0, none⟩) zs.length zs.length, .int .i64 0] 52)).heap[w.heap.size]? = (w.alloc (zeros3 zs.length)).heap[w.heap.size]? := hb.block _ (by omega)
  have r1 : Row 55 (w.alloc (zeros3 zs.length)) w.heap.size (zs.length * 3) := ⟨_, heap_alloc_new w _, size_madeCells _ _⟩
  refine ⟨by omega, hB, ⟨_, e, rfl⟩, ?_, ?_, r1.of_block eg, fun i hi => ?_, fun i hi => ?_, fun i hi => ?_, fun i hi => World.ownsRow_nil _ _ _ _, fun i j k hi hj hk => ?_⟩
  · unfold World.cell?
    rw [e]
    rfl
  · unfold World.cell?
    rw [e]
    rfl
  · rw [cell_of_block eg]
    have hi' : i < zs.length := hi
    have := made_at w z3 3 (zs.length * 3) i 0 55 _ rfl (by omega) (by omega) rfl
    rw [Nat.add_zero] at this
    rw [show zeros3 zs.length = .cells (madeCells z3.toArray (zs.length * 3)) 55 from rfl, this]
    show some (Value.int .i64 0) = some (Value.int .i64 (if i < 0 then zs.getD i 0 else 0))
    rw [if_neg (by omega)]
  · rw [cell_of_block eg]
    exact made_at w z3 3 (zs.length * 3) i 1 55 _ rfl (by omega) (by have : i < zs.length := hi; omega) rfl
  · rw [cell_of_block eg]
    exact made_at w z3 3 (zs.length * 3) i 2 55 _ rfl (by omega) (by have : i < zs.length := hi; omega) rfl
  · obtain ⟨y, hy, -⟩ := hk
    cases hy
theorem FrAt.setWt {B : Nat} {w : World} {f g : Nat} {A : Nat → Sl} {zs : List Int} {k : Nat} (h : FrAt B w f g A (wtF zs k)) (hk : k < zs.length) : FrAt B (w.setCell ⟨g, k * 3, none⟩ (.int .i64 (zs.getD k 0))) f g A (wtF zs (k + 1)) ∧ Off B TF w (w.setCell ⟨g, k * 3, none⟩ (.int .i64 (zs.getD k 0))) := by
  have ef := Below.heap_setCell w ⟨g, k * 3, none⟩ (.int .i64 (zs.getD k 0)) f h.ne
  refine ⟨⟨h.Bf, h.Bg, h.top.of_block ef, (cell_of_block ef _).trans h.t0, (cell_of_block ef _).trans h.t1, h.row.set _ _, fun j hj => ?_, fun j hj => (World.cell?_setCell_other _ _ _ _ (by simp <;> omega)).trans (h.c1 j hj), fun j hj => (World.cell?_setCell_other _ _ _ _ (by simp <;> omega)).trans (h.c2 j hj), fun j hj => own_keep (h.own j hj) fun k' hb => Below.heap_setCell w ⟨g, k * 3, none⟩ _ k' (h.rowne hj hb).2, h.apart⟩, Off.set h.row h.Bg rfl _ _⟩
  show _ = some (Value.int .i64 (if j < k + 1 then zs.getD j 0 else 0))
  by_cases e : j = k
  · subst e
    rw [if_pos (by omega)]
    exact World.cell?_setCell_same _ _ _ (h.c0 j hj)
  · have := h.c0 j hj
    refine (World.cell?_setCell_other _ _ _ _ (by simp <;> omega)).trans (this.trans ?_)
    show some (Value.int .i64 (if j < k then zs.getD j 0 else 0)) = _
    by_cases h1 : j < k
    · rw [if_pos h1, if_pos (by omega)]
    · rw [if_neg h1, if_neg (by omega)]
theorem new_yes {w : World} {a : Option Addr} {n c : Nat} {zs : List Int} (h : Reads .i64 w a n zs) (hok : okW zs = true) :
    Calls Try.prog 7 #[.slice a n c] w fun e w' => ∃ f, e = .returned (.tuple #[.pointer (some ⟨f, 0, none⟩), .int .i64 0]) ∧ (∀ B, B ≤ w.heap.size → ∃ g A, FrAt B w' f g A (newF zs)) ∧ Below w.heap.size w w' := by
  have k := contains_call h (c := c)
  have hlen := h.len
  have hmax := h.max
  have hok' := hok
  simp only [okW, Bool.and_eq_true, decide_eq_true_eq, Bool.not_eq_true'] at hok'
  obtain ⟨⟨h1, h2⟩, h3⟩ := hok'
  rw [hlen] at h1 h2
  rw [h3] at k
  have hN := hidden_ (fun B (hB : B ≤ w.heap.size) => new_at B w zs hB _ rfl)
  have hb0 := below_new (below_new (Below.refl w.heap.size w) (zeros3 zs.length)) (.cells #[.slice (some ⟨w.heap.size, 0, none⟩) zs.length zs.length, .int .i64 0] 52)
  have hmk := made3 n (by omega) w
  rw [hlen] at hN hb0
  have HB := hidden_ hb0
  have HR := hidden_ h
  have HL := hidden_ hlen
  have h2' : ¬ (4 : Int) < (n : Int) := by omega
  have h1' : ¬ (n : Int) < 1 := by omega
  obtain ⟨x, rfl⟩ := h.some_ (by omega)
  have hsz : ((w.alloc (zeros3 n)).alloc (.cells #[.slice (some ⟨w.heap.size, 0, none⟩) n n, .int .i64 0] 52)).heap.size = w.heap.size + 2 := by simp
  have hsz1 : (w.alloc (zeros3 n)).heap.size = w.heap.size + 1 := by simp
  have HZ := hidden_ hsz1
  clear hb0 h hok h3 hlen hsz hsz1
  go_enter Try.func7, Try.ntmps7
  go_wp2_with (go_at_call 21; refine k.mono ?_; rintro e W1 ⟨rfl, hw⟩; obtain rfl := hw.symm; clear k)
  have hF0 := hidden_ (show (∀ B, B ≤ w.heap.size → FrAt B ((w.alloc (zeros3 n)).alloc (.cells #[.slice (some ⟨w.heap.size, 0, none⟩) n n, .int .i64 0] 52)) (w.heap.size + 1) w.heap.size (fun _ => ⟨none, 0⟩) (wtF zs 0)) ∧ Below w.heap.size w ((w.alloc (zeros3 n)).alloc (.cells #[.slice (some ⟨w.heap.size, 0, none⟩) n n, .int .i64 0] 52)) from ⟨hN.out, HB.out⟩)
  obtain ⟨W0, e0⟩ : ∃ W0, (w.alloc (zeros3 n)).alloc (.cells #[.slice (some ⟨w.heap.size, 0, none⟩) n n, .int .i64 0] 52) = W0 := ⟨_, rfl⟩
  rw [e0] at hF0 ⊢
  clear e0 hN HB HZ hmk
  obtain ⟨f, ef⟩ : ∃ f, w.heap.size + 1 = f := ⟨_, rfl⟩
  rw [ef] at hF0 ⊢
  obtain ⟨g, eg⟩ : ∃ g, w.heap.size = g := ⟨_, rfl⟩
  have hle := hidden_ (show w.heap.size ≤ g by omega)
  have HG := hidden_ eg
  have hF1 : Hid ((∀ B, B ≤ g → FrAt B W0 f g (fun _ => ⟨none, 0⟩) (wtF zs 0)) ∧ Below g w W0) := by rw [← eg]; exact hF0
  clear hF0 ef
  rw [eg]
  clear eg
  obtain ⟨X, eX⟩ : ∃ X : Addr, X = ⟨g, 0, none⟩ := ⟨_, rfl⟩
  rw [← eX]
  have HX := hidden_ eX
  clear eX
  go_loopw [26] (fun i wr => ∃ k : Nat, k ≤ n ∧ i = .int .i64 k ∧ Hid ((∀ B, B ≤ g → FrAt B wr f g (fun _ => ⟨none, 0⟩) (wtF zs k)) ∧ Below g w wr)) (fun i _ => n - (intOf i).toNat)
  case atStart => exact ⟨0, Nat.zero_le _, rfl, hF1⟩
  case round =>
    obtain ⟨k, hk, rfl, hq⟩ := hrel
    by_cases hlt : k < n
    · have hF := hq.out.1 g (Nat.le_refl _)
      have t0 := hF.t0
      have hl : (wtF zs k).n = n := HL.out
      rw [hl, ← HX.out] at t0
      have hk' : k < zs.length := by rw [HL.out]; exact hlt
      have hlt' : (k : Int) < (n : Int) := by omega
      have cx := (HR.out.below (by have := hq.out.2; rw [← HG.out] at this; exact this)).cell x rfl k hlt
      have c0 := hF.c0 k (by rw [hl]; exact hlt)
      have fz := hF.row.open_ (k * 3)
      have hst : Hid ((∀ B, B ≤ g → FrAt B (wr.setCell ⟨g, k * 3, none⟩ (.int .i64 (zs.getD k 0))) f g (fun _ => ⟨none, 0⟩) (wtF zs (k + 1))) ∧ Below g w (wr.setCell ⟨g, k * 3, none⟩ (.int .i64 (zs.getD k 0)))) := ⟨fun B hB => ((hq.out.1 B hB).setWt hk').1, hq.out.2.trans ((hF.setWt hk').2.below (by have := hF.row.lt; omega))⟩
      obtain ⟨v0, ev0⟩ : ∃ v0, (wtF zs k).wt k = v0 := ⟨_, rfl⟩
      rw [ev0] at c0
      obtain ⟨t, et⟩ : ∃ t, zs.getD k 0 = t := ⟨_, rfl⟩
      rw [et] at cx hst
      obtain ⟨P, eP⟩ : ∃ P, X.add (k * 3) = P := ⟨_, rfl⟩
      have e' : P = ⟨g, k * 3, none⟩ := by rw [← eP, HX.out, add_zero_at]
      rw [← e'] at c0 fz hst
      clear e' ev0 et hl hk' hF hq
      go_wp2
      go_roundw
      case rel => exact ⟨k + 1, by omega, by go_num, hst⟩
      case measure => simp [intOf]; omega
    · have e : k = n := by omega
      subst e
      have e : wtF zs k = newF zs ∨ True := .inr trivial
      have hcg : ∀ B, B ≤ g → FrAt B wr f g (fun _ => ⟨none, 0⟩) (newF zs) := fun B hB => (hq.out.1 B hB).congr rfl (fun i hi => by
        have hi' : i < zs.length := hi
        show zs.getD i 0 = if i < k then zs.getD i 0 else 0
        rw [if_pos (by rw [← HL.out]; exact hi')]) (fun _ _ => rfl) (fun _ _ => rfl) rfl
      have HC := hidden_ hcg
      clear hcg e
      go_wp2
      go_ret2
      exact ⟨_, rfl, fun B hB => ⟨_, _, HC.out B (by rw [← HG.out]; exact hB)⟩, by have := hq.out.2; rw [← HG.out] at this; exact this⟩

end Go.Proofs.Ytkjmlbllpnehlaa
