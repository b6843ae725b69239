/- Texts put together: XpCase, XpBox. -/
import Derived.Test.YtlpmndlefbghoaaRows
import Derived.Test.YtlpmndlefbghoaaView
import Derived.Test.YtlpmndlefbghoaaOwn
import Derived.Test.YtlpmndlefbghoaaSoft
import Derived.Test.YtlpmndlefbghoaaGrids
import Derived.Test.YtlpmndlefbghoaaSteps
import Derived.Test.YtlpmndlefbghoaaWorks
import Derived.Test.YtlpmndlefbghoaaXpGridB
import Derived.WalkKit
import Derived.ProofKit
import Derived.OpenShut
import Derived.Below
import Derived.WalkLawsBesides
import Derived.Deep.QuietTactic
import Derived.BigQuiet
import Derived.ChangeOld
import Derived.ChangeMaps5
import Derived.SizedLaws
import Derived.Deep.Slices
import Derived.Deep.Matrix
import Derived.Test.YtlpmndlefbghoaaXpNeed
namespace Go.Proofs.Ytlpmndlefbghoaa

/- A case that is handed in: what it holds, and how it lies in memory. -/
section
open Go.ChangeShapes Go.WideShapes Go.ChangeAt Go.RowKit
set_option linter.unusedVariables false
set_option linter.unusedSimpArgs false

theorem ce22 : Try.prog.cellsOf 22 = 1 := by kernel_rfl
theorem ce23 : Try.prog.cellsOf 23 = 1 := by kernel_rfl
theorem ce24 : Try.prog.cellsOf 24 = 1 := by kernel_rfl
theorem ce3 : Try.prog.cellsOf 3 = 1 := by kernel_rfl
theorem ce26 : Try.prog.cellsOf 26 = 6 := by kernel_rfl

/-- networks, a router and a row -/
structure CaseV where
  ra : Option Addr
  rn : Nat
  rc : Nat
  rz : List Int
  ua : Option Addr
  un : Nat
  uc : Nat
  UA : Nat → Option Addr
  UC : Nat → Nat
  U : Nat → List Int
  da : Option Addr
  dn : Nat
  dc : Nat
  DA : Nat → Option Addr
  DC : Nat → Nat
  D : Nat → List Int
  h : Int
  k : Int
  xa : Option Addr
  xn : Nat
  xc : Nat
  xz : List Int
def CaseV.v (c : CaseV) : Value := .agg #[.slice c.ra c.rn c.rc, .slice c.ua c.un c.uc, .slice c.da c.dn c.dc, .int .i64 c.h, .int .i64 c.k, .slice c.xa c.xn c.xc]

/-- how it lies in memory; it holds at most 1048576 values -/
structure CaseAt (w : World) (c : CaseV) : Prop where
  r : Reads .i8 w c.ra c.rn c.rz
  re : c.ra = none → c.rc = 0
  rl : c.rn ≤ c.rc
  rb : c.rn ≤ 1048576
  u : Nets w c.ua c.un c.UA c.UC c.U
  ub : c.un ≤ 1048576
  d : Nets w c.da c.dn c.DA c.DC c.D
  db : c.dn ≤ 1048576
  wh : (Lit.int .i64 c.h).wf = true
  wk : (Lit.int .i64 c.k).wf = true
  x : Reads .i64 w c.xa c.xn c.xz
  xe : c.xa = none → c.xc = 0
  xl : c.xn ≤ c.xc
  xb : c.xn ≤ 1048576

theorem bulk_mem {H : Type} {l : List (DataW H)} {d : DataW H} (h : d ∈ l) : Rows.uptoBulk d ≤ Rows.uptoBulkAll l := by
  obtain ⟨i, hi, e⟩ := List.getElem_of_mem h
  exact bulk_member l i d (by simp [hi, e])

section
variable {H : Type} {enc : TypeId × Value → H} {W : World} {fuel : Nat}

theorem open_row {t e : TypeId} {kd : IntKind} (ht : Try.prog.underlying t = some (.slice e)) (he : Try.prog.underlying e = some (.int kd)) (h1 : Try.prog.cellsOf e = 1) {c : Value} {x : DataW H × List MemPlace} (h : DataW.trod enc Try.prog W 0 (fun _ => true) true fuel t [c] = some x) :
    ∃ a n cp zs, c = .slice a n cp ∧ Reads kd W a n zs ∧ (a = none → cp = 0) ∧ n ≤ cp ∧ (Rows.uptoBulk x.1 ≤ 1048576 → n ≤ 1048576) := by
  rcases open_ints ht he h1 h with ⟨hcs, hd⟩ | ⟨y, l, cp, zs, hcs, _, hl, hm, hz, hd, hcell, hwz⟩
  · obtain rfl : c = .slice none 0 0 := by simpa using hcs
    exact ⟨none, 0, 0, [], rfl, Reads.nil _ _, fun _ => rfl, Nat.le_refl _, fun _ => by omega⟩
  · obtain rfl : c = .slice (some y) l cp := by simpa using hcs
    have hz' : zs.length = cp := by simpa using hz
    refine ⟨some y, l, cp, zs.take l, rfl, Reads.of_open hl hm hz' hcell hwz, (fun h => by cases h), hl, fun hs => ?_⟩
    have hd' : x.1 = _ := congrArg Prod.fst hd
    rw [hd'] at hs
    have q1 := bulk_count (H := H) (lits kd (zs.take l))
    simp only [Rows.uptoBulk] at hs
    simp only [lits, List.length_map, List.length_take] at q1 hs
    omega

theorem open_nets {c : Value} {x : DataW H × List MemPlace} (h : DataW.trod enc Try.prog W 0 (fun _ => true) true fuel 23 [c] = some x) (hs : Rows.uptoBulk x.1 ≤ 1048576) :
    ∃ a n cp A C R, c = .slice a n cp ∧ Nets W a n A C R ∧ n ≤ 1048576 := by
  rcases Go.Deep.open_int_rows Try.underlying23 Try.underlying22 Try.underlying53 (by kernel_rfl) (by kernel_rfl) h with ⟨hcs, hd⟩ | ⟨y, len, cap, A, L, C, Z, hcs, _, hl, hm, hd, hrow⟩
  · obtain rfl : c = .slice none 0 0 := by simpa using hcs
    exact ⟨none, 0, 0, fun _ => none, fun _ => 0, fun _ => [], rfl, ⟨⟨by omega, fun h => by omega, fun _ h => (by cases h), fun r hr => by omega⟩, fun r hr => by omega, fun r hr => by omega, fun r hr => by omega⟩, by omega⟩
  · obtain rfl : c = .slice (some y) len cap := by simpa using hcs
    have hlen : ∀ r, r < len → ((Z r).take (L r)).length = L r := fun r hr => by
      obtain ⟨_, h1, _, h3, _⟩ := hrow r (by omega)
      rw [List.length_take]; omega
    have hd' : x.1 = _ := congrArg Prod.fst hd
    rw [hd'] at hs
    simp only [Rows.uptoBulk] at hs
    have cnt : len ≤ 1048576 := by
      have q1 := bulk_count (H := H) ((List.range len).map fun r => Go.Deep.intRow (H := H) .i8 (A r) (L r) (Z r))
      simp only [List.length_map, List.length_range] at q1
      omega
    refine ⟨some y, len, cap, A, C, fun r => (Z r).take (L r), rfl, ⟨⟨by unfold maxLen at hm; omega, fun _ => ⟨_, rfl⟩, fun z hz r hr => ?_, fun r hr => ?_⟩, fun r hr => ?_, fun r hr => (hrow r (by omega)).2.2.2.2.2.1, fun r hr => ?_⟩, cnt⟩
    · obtain rfl := Option.some.inj hz
      rw [hlen r hr]
      exact (hrow r (by omega)).1
    · rw [hlen r hr]
      obtain ⟨_, h1, h2, h3, h4, h5, h6⟩ := hrow r (by omega)
      cases hA : A r with
      | none =>
        have : L r = 0 := by have := h5 hA; omega
        rw [this]
        exact Reads.nil _ _
      | some y => exact Reads.of_open h1 h2 h3 (fun i hi => (h6 y hA).2 i (by omega)) h4
    · rw [hlen r hr]
      exact (hrow r (by omega)).2.1
    · rw [hlen r hr]
      obtain ⟨_, h1, h2, h3, h4, h5, h6⟩ := hrow r (by omega)
      cases hA : A r with
      | none => have := h5 hA; omega
      | some y =>
        have hmem : Go.Deep.intRow (H := H) .i8 (A r) (L r) (Z r) ∈ (List.range len).map fun r => Go.Deep.intRow .i8 (A r) (L r) (Z r) := List.mem_map.2 ⟨r, List.mem_range.2 hr, rfl⟩
        have q1 := bulk_mem hmem
        have hrw : Go.Deep.intRow (H := H) .i8 (A r) (L r) (Z r) = .slice (lits .i8 ((Z r).take (L r))) (lits .i8 ((Z r).drop (L r))) := by rw [hA]; rfl
        rw [hrw] at q1
        simp only [Rows.uptoBulk] at q1
        have q2 := bulk_count (H := H) (lits .i8 ((Z r).take (L r)))
        simp only [lits, List.length_map, List.length_take] at q1 q2
        omega

theorem array6 {α : Type} {cs : Array α} (h : cs.size = 6) : ∃ c0 c1 c2 c3 c4 c5, cs = #[c0, c1, c2, c3, c4, c5] := by
  obtain ⟨l⟩ := cs
  match l, h with
  | [c0, c1, c2, c3, c4, c5], _ => exact ⟨c0, c1, c2, c3, c4, c5, rfl⟩

theorem open_case {b0 : Nat} {r : Reach} {v : Value} {dd : DataW H} {p : List MemPlace} (hv : Value.okWide Try.prog W r b0 26 v) (h : DataW.Trod enc Try.prog W 0 (fun _ => true) true 26 v dd p) (hk : Rows.uptoBulk dd ≤ 1048576) : ∃ c : CaseV, v = c.v ∧ CaseAt W c := by
  obtain ⟨cs, rfl, hsz⟩ := okWide_struct Try.underlying26 hv
  obtain ⟨c0, c1, c2, c3, c4, c5, rfl⟩ := array6 (hsz.trans ce26)
  obtain ⟨fuel, hf⟩ := h
  have hf' : DataW.trod enc Try.prog W 0 (fun _ => true) true fuel 26 [c0, c1, c2, c3, c4, c5] = some (dd, p) := by simpa [Value.cells] using hf
  obtain ⟨xs, n, -, ex, -, hlen, hg⟩ := DataW.trod_struct Try.underlying26 hf'
  have hl : xs.length = 6 := hlen.trans (by rfl)
  match xs, hl with
  | [x0, x1, x2, x3, x4, x5], _ =>
  have g0 : DataW.trod enc Try.prog W 0 (fun _ => true) true n 22 [c0] = some x0 := by rw [show [c0] = ([c0, c1, c2, c3, c4, c5].drop 0).take (Try.prog.cellsOf 22) by rw [ce22]; rfl]; exact hg 0 _ rfl
  have g1 : DataW.trod enc Try.prog W 0 (fun _ => true) true n 23 [c1] = some x1 := by rw [show [c1] = ([c0, c1, c2, c3, c4, c5].drop 1).take (Try.prog.cellsOf 23) by rw [ce23]; rfl]; exact hg 1 _ rfl
  have g2 : DataW.trod enc Try.prog W 0 (fun _ => true) true n 23 [c2] = some x2 := by rw [show [c2] = ([c0, c1, c2, c3, c4, c5].drop 2).take (Try.prog.cellsOf 23) by rw [ce23]; rfl]; exact hg 2 _ rfl
  have g3 : DataW.trod enc Try.prog W 0 (fun _ => true) true n 3 [c3] = some x3 := by rw [show [c3] = ([c0, c1, c2, c3, c4, c5].drop 3).take (Try.prog.cellsOf 3) by rw [ce3]; rfl]; exact hg 3 _ rfl
  have g4 : DataW.trod enc Try.prog W 0 (fun _ => true) true n 3 [c4] = some x4 := by rw [show [c4] = ([c0, c1, c2, c3, c4, c5].drop 4).take (Try.prog.cellsOf 3) by rw [ce3]; rfl]; exact hg 4 _ rfl
  have g5 : DataW.trod enc Try.prog W 0 (fun _ => true) true n 24 [c5] = some x5 := by rw [show [c5] = ([c0, c1, c2, c3, c4, c5].drop 5).take (Try.prog.cellsOf 24) by rw [ce24]; rfl]; exact hg 5 _ rfl
  have ed : dd = .agg [x0.1, x1.1, x2.1, x3.1, x4.1, x5.1] := congrArg Prod.fst ex
  rw [ed] at hk
  simp only [Rows.uptoBulk, Rows.uptoBulkAll] at hk
  obtain ⟨ra, rn, rc, rz, rfl, r1, r2, r3, r4⟩ := open_row (kd := .i8) Try.underlying22 Try.underlying53 (by kernel_rfl) g0
  obtain ⟨ua, un, uc, UA, UC, U, rfl, u1, u2⟩ := open_nets g1 (by omega)
  obtain ⟨da, dn, dc, DA, DC, D, rfl, d1, d2⟩ := open_nets g2 (by omega)
  obtain ⟨h, eh, -, wh⟩ := DataW.trod_int Try.underlying3 g3
  obtain ⟨k, ek, -, wk⟩ := DataW.trod_int Try.underlying3 g4
  obtain rfl : c3 = .int .i64 h := by simpa using eh
  obtain rfl : c4 = .int .i64 k := by simpa using ek
  obtain ⟨xa, xn, xc, xz, rfl, x1, x2, x3, x4⟩ := open_row (kd := .i64) Try.underlying24 Try.underlying2 (by kernel_rfl) g5
  exact ⟨⟨ra, rn, rc, rz, ua, un, uc, UA, UC, U, da, dn, dc, DA, DC, D, h, k, xa, xn, xc, xz⟩, rfl, ⟨r1, r2, r3, r4 (by omega), u1, u2, d1, d2, wh, wk, x1, x2, x3, x4 (by omega)⟩⟩
end

/-- whether a case is passed over -/
def greatB (un dn rn : Nat) : Bool := decide (40 < un) || decide (40 < dn) || decide (2000 < rn)

theorem great_call (ra : Option Addr) (rn rc : Nat) (ua : Option Addr) (un uc : Nat) (da : Option Addr) (dn dc : Nat) (h k : Int) (xa : Option Addr) (xn xc : Nat) (w : World) (b0 : rn ≤ 1048576) (b1 : un ≤ 1048576) (b2 : dn ≤ 1048576) :
    Calls Try.prog 8 #[.agg #[.slice ra rn rc, .slice ua un uc, .slice da dn dc, .int .i64 h, .int .i64 k, .slice xa xn xc]] w fun e w' => e = .returned (.bool (greatB un dn rn)) ∧ Below w.heap.size w w' := by
  have hb := below_new (Below.refl w.heap.size w) (.cells #[.slice ra rn rc, .slice ua un uc, .slice da dn dc, .int .i64 h, .int .i64 k, .slice xa xn xc] 26)
  by_cases c1 : 40 < un
  · have e : greatB un dn rn = true := by simp [greatB, c1]
    rw [e]
    have c1' : (40 : Int) < (un : Int) := by omega
    go_enter Try.func8, Try.ntmps8
    go_wp2
    go_ret
    exact ⟨rfl, hb⟩
  · have c1' : ¬ (40 : Int) < (un : Int) := by omega
    by_cases c2 : 40 < dn
    · have e : greatB un dn rn = true := by simp [greatB, c2]
      rw [e]
      have c2' : (40 : Int) < (dn : Int) := by omega
      go_enter Try.func8, Try.ntmps8
      go_wp2
      go_ret
      exact ⟨rfl, hb⟩
    · have c2' : ¬ (40 : Int) < (dn : Int) := by omega
      have e : greatB un dn rn = decide (2000 < rn) := by simp [greatB, c1, c2]
      rw [e]
      by_cases c3 : 2000 < rn
      · have c3' : (2000 : Int) < (rn : Int) := by omega
        rw [decide_eq_true c3]
        go_enter Try.func8, Try.ntmps8
        go_wp2
        go_ret
        exact ⟨rfl, hb⟩
      · have c3' : ¬ (2000 : Int) < (rn : Int) := by omega
        rw [decide_eq_false c3]
        go_enter Try.func8, Try.ntmps8
        go_wp2
        go_ret
        exact ⟨rfl, hb⟩
end

/- A case in a variable of its own. -/
section
open Go.ChangeShapes Go.WideShapes Go.ChangeAt Go.RowKit
set_option linter.unusedVariables false
set_option linter.unusedSimpArgs false

theorem run_field26_0 (b : Nat) (w : World) : (Instr.fieldAt 26 (.pointer (some ⟨b, 0, none⟩)) 0).run Try.prog w = .ok (.pointer (some ⟨b, 0, none⟩)) w := by go_simp
theorem run_field26_1 (b : Nat) (w : World) : (Instr.fieldAt 26 (.pointer (some ⟨b, 0, none⟩)) 1).run Try.prog w = .ok (.pointer (some ⟨b, 1, none⟩)) w := by go_simp
theorem run_field26_2 (b : Nat) (w : World) : (Instr.fieldAt 26 (.pointer (some ⟨b, 0, none⟩)) 2).run Try.prog w = .ok (.pointer (some ⟨b, 2, none⟩)) w := by go_simp
theorem run_field26_3 (b : Nat) (w : World) : (Instr.fieldAt 26 (.pointer (some ⟨b, 0, none⟩)) 3).run Try.prog w = .ok (.pointer (some ⟨b, 3, none⟩)) w := by go_simp
theorem run_field26_4 (b : Nat) (w : World) : (Instr.fieldAt 26 (.pointer (some ⟨b, 0, none⟩)) 4).run Try.prog w = .ok (.pointer (some ⟨b, 4, none⟩)) w := by go_simp
theorem run_field26_5 (b : Nat) (w : World) : (Instr.fieldAt 26 (.pointer (some ⟨b, 0, none⟩)) 5).run Try.prog w = .ok (.pointer (some ⟨b, 5, none⟩)) w := by go_simp

/-- the cells of a case's variable, and what calls that only lay new blocks leave of them -/
theorem case_cells {w W : World} {ra ua da xa : Option Addr} {rn rc un uc dn dc xn xc : Nat} {h k : Int} (hb : Below (w.alloc (.cells #[.slice ra rn rc, .slice ua un uc, .slice da dn dc, .int .i64 h, .int .i64 k, .slice xa xn xc] 26)).heap.size (w.alloc (.cells #[.slice ra rn rc, .slice ua un uc, .slice da dn dc, .int .i64 h, .int .i64 k, .slice xa xn xc] 26)) W) :
    W.cell? ⟨w.heap.size, 0, none⟩ = some (.slice ra rn rc) ∧ W.cell? ⟨w.heap.size, 1, none⟩ = some (.slice ua un uc) ∧ W.cell? ⟨w.heap.size, 2, none⟩ = some (.slice da dn dc) ∧ W.cell? ⟨w.heap.size, 3, none⟩ = some (.int .i64 h) ∧ W.cell? ⟨w.heap.size, 4, none⟩ = some (.int .i64 k) ∧ W.cell? ⟨w.heap.size, 5, none⟩ = some (.slice xa xn xc) ∧ Below w.heap.size w W := by
  have hs : w.heap.size < (w.alloc (.cells #[.slice ra rn rc, .slice ua un uc, .slice da dn dc, .int .i64 h, .int .i64 k, .slice xa xn xc] 26)).heap.size := by simp
  have key : ∀ i, W.cell? ⟨w.heap.size, i, none⟩ = (#[.slice ra rn rc, .slice ua un uc, .slice da dn dc, .int .i64 h, .int .i64 k, .slice xa xn xc] : Array Value)[i]? := fun i => (hb.cell hs).trans (by rw [World.cell?_alloc_new])
  exact ⟨key 0, key 1, key 2, key 3, key 4, key 5, (below_new (Below.refl _ w) _).trans (hb.mono (by omega))⟩

/-- a second name for a boxed case's facts: from a later world on -/
theorem case_after {w W1 W : World} {ra ua da xa : Option Addr} {rn rc un uc dn dc xn xc : Nat} {h k : Int} (h1 : Below (w.alloc (.cells #[.slice ra rn rc, .slice ua un uc, .slice da dn dc, .int .i64 h, .int .i64 k, .slice xa xn xc] 26)).heap.size (w.alloc (.cells #[.slice ra rn rc, .slice ua un uc, .slice da dn dc, .int .i64 h, .int .i64 k, .slice xa xn xc] 26)) W1) (hb : Below W1.heap.size W1 W) :
    Below (w.alloc (.cells #[.slice ra rn rc, .slice ua un uc, .slice da dn dc, .int .i64 h, .int .i64 k, .slice xa xn xc] 26)).heap.size (w.alloc (.cells #[.slice ra rn rc, .slice ua un uc, .slice da dn dc, .int .i64 h, .int .i64 k, .slice xa xn xc] 26)) W := below_then h1 hb
end

end Go.Proofs.Ytlpmndlefbghoaa
