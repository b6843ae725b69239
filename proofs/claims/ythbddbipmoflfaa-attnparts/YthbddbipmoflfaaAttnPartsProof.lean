/- The examples come out as they should, and for every row that looks of an even length and up to fifty keys and values of its length, what two heads answer is what one head answers of the first halves, and behind it what one head answers of the second halves. -/
import Derived.Test.YthbddbipmoflfaaRows
import Derived.Test.YthbddbipmoflfaaView
import Derived.Test.YthbddbipmoflfaaOwn
import Derived.Test.YthbddbipmoflfaaSteps
import Derived.Test.YthbddbipmoflfaaSame
import Derived.Test.YthbddbipmoflfaaWhere
import Derived.Test.YthbddbipmoflfaaWorks
import Derived.Test.YthbddbipmoflfaaSoft
import Derived.Test.YthbddbipmoflfaaMean
import Derived.Test.YthbddbipmoflfaaGrids
import Derived.Test.YthbddbipmoflfaaOpen
import Derived.Test.YthbddbipmoflfaaAtPlain
import Derived.Test.YthbddbipmoflfaaAtFits
import Derived.Test.YthbddbipmoflfaaAtFitsNo
import Derived.Test.YthbddbipmoflfaaAtHead
import Derived.Test.YthbddbipmoflfaaAtCut
import Derived.Test.YthbddbipmoflfaaAtRefCut
import Derived.Test.YthbddbipmoflfaaAtAll
import Derived.Test.YthbddbipmoflfaaAtWorks
import Derived.Test.YthbddbipmoflfaaInvIn
import Derived.Test.YthbddbipmoflfaaAtReg
import Derived.Test.YthbddbipmoflfaaAtTwo
import Derived.Test.YthbddbipmoflfaaAtParts
import Derived.WalkKit
import Derived.ProofKit
import Derived.OpenShut
import Derived.ChangeOld
import Derived.Below
import Derived.WalkLawsBesides
import Derived.ChangeMaps5
import Derived.SizedLaws
namespace Go.Proofs.Ythbddbipmoflfaa.attnParts
open Go.ChangeShapes Go.WideShapes Go.ChangeAt Go.RowKit
set_option linter.unusedVariables false
set_option linter.unusedSimpArgs false

theorem own : ownKnob Try.prog.godebug = none := by kernel_rfl
theorem laidOut : laidOutB Try.prog = true := by kernel_rfl
theorem bytes2 : Try.prog.bytesOf 2 = 8 := by kernel_rfl

theorem cut0 {A : Nat → Option Addr} {C : Nat → Nat} {h k : Nat} {y : Addr} (e : A k = some y) : cutCells A C 0 h (k + 1) = cutCells A C 0 h k ++ [.slice (some y) h (C k)] := by
  rw [cutCells_succ]
  unfold cutA
  rw [e]
  simp [Addr.add_zero']
theorem cutH {A : Nat → Option Addr} {C : Nat → Nat} {h k : Nat} {y : Addr} (e : A k = some y) : cutCells A C h h (k + 1) = cutCells A C h h k ++ [.slice (some (y.add h)) h (C k - h)] := by
  rw [cutCells_succ]
  unfold cutA
  rw [e]
  simp
theorem all_two (q : List Int) (K V : Nat → List Int) (h n : Nat) : allL q K V h n 2 = headZ ((q.drop 0).take h) (cutR K 0 h) (cutR V 0 h) h n ++ headZ ((q.drop h).take h) (cutR K h h) (cutR V h h) h n := by
  simp [allL]


set_option maxHeartbeats 8000000 in
set_option maxRecDepth 100000 in
theorem walk (a0 : Option Addr) (n0 c0 : Nat) (z0 : List Int) (a1 : Option Addr) (n1 c1 : Nat) (A1 : Nat → Option Addr) (C1 : Nat → Nat) (R1 : Nat → List Int) (a2 : Option Addr) (n2 c2 : Nat) (A2 : Nat → Option Addr) (C2 : Nat → Nat) (R2 : Nat → List Int) (w : World) (w0 : Reads .i64 w a0 n0 z0) (e0 : a0 = none → c0 = 0) (l0 : n0 ≤ c0) (w1 : Grid w a1 n1 A1 C1 R1) (e1 : ∀ r, r < n1 → (A1 r = none → C1 r = 0) ∧ (R1 r).length ≤ C1 r) (l1 : n1 ≤ c1) (f1 : a1 = none → c1 = 0) (w2 : Grid w a2 n2 A2 C2 R2) (e2 : ∀ r, r < n2 → (A2 r = none → C2 r = 0) ∧ (R2 r).length ≤ C2 r) (l2 : n2 ≤ c2) (f2 : a2 = none → c2 = 0) (b0 : n0 * 8 ≤ 140737488351232) (b1 : n1 * 24 ≤ 140737488351232) (g1 : ∀ r, r < n1 → (R1 r).length * 8 ≤ 140737488351232) (b2 : n2 * 24 ≤ 140737488351232) (g2 : ∀ r, r < n2 → (R2 r).length * 8 ≤ 140737488351232) :
    Calls Try.prog 6 #[.slice a0 n0 c0, .slice a1 n1 c1, .slice a2 n2 c2] w fun e w' => e = .returned (.bool true) ∧ Below w.heap.size w w' := by
  have kw := works_call w
  have hm := w0.max
  have hm1 := w1.max
  by_cases q1 : n0 = 0
  case pos =>
    subst q1
    go_enter Try.func6, Try.ntmps6
    go_wp2_with (go_at_call 17; refine kw.mono ?_; rintro e W1 ⟨rfl, hb⟩; clear kw)
    go_ret
    exact ⟨rfl, hb⟩
  have zn : ((n0 : Int) == 0) = false := by simp; omega
  by_cases q2 : n0 % 2 = 0
  case neg =>
    have z2 : ((n0 : Int) % 2 != 0) = true := by simp; omega
    have z3 : (n0 : Int) % 2 = 1 := by omega
    go_enter Try.func6, Try.ntmps6
    go_wp2_with (go_at_call 17; refine kw.mono ?_; rintro e W1 ⟨rfl, hb⟩; clear kw)
    go_ret
    exact ⟨rfl, hb⟩
  have z2 : (n0 : Int) % 2 = 0 := by omega
  by_cases q3 : n1 = 0
  case pos =>
    subst q3
    go_enter Try.func6, Try.ntmps6
    go_wp2_with (go_at_call 17; refine kw.mono ?_; rintro e W1 ⟨rfl, hb⟩; clear kw)
    go_ret
    exact ⟨rfl, hb⟩
  have z3 : ((n1 : Int) == 0) = false := by simp; omega
  by_cases q4 : n1 = n2
  case neg =>
    have z4 : ((n1 : Int) == (n2 : Int)) = false := by simp; omega
    go_enter Try.func6, Try.ntmps6
    go_wp2_with (go_at_call 17; refine kw.mono ?_; rintro e W1 ⟨rfl, hb⟩; clear kw)
    go_ret
    exact ⟨rfl, hb⟩
  subst q4
  by_cases q5 : 50 < n1
  case pos =>
    go_enter Try.func6, Try.ntmps6
    go_wp2_with (go_at_call 17; refine kw.mono ?_; rintro e W1 ⟨rfl, hb⟩; clear kw)
    go_ret
    exact ⟨rfl, hb⟩
  obtain ⟨h, eh⟩ : ∃ h, n0 / 2 = h := ⟨_, rfl⟩
  have ehh : n0 - h = h := by omega
  have h0 : 0 < h := by omega
  have eh' : (n0 : Int) / 2 = (h : Int) := by omega
  obtain ⟨x0, rfl⟩ := w0.some_ (by omega)
  obtain ⟨x, rfl⟩ := w1.some_ (by omega)
  obtain ⟨x2, rfl⟩ := w2.some_ (by omega)
  go_enter Try.func6, Try.ntmps6
  go_wp2_with (go_at_call 17; refine kw.mono ?_; rintro e W1 ⟨rfl, hb⟩; clear kw)
  go_loopw [8, 9, 10, 11, 12] (fun v8 v9 v10 v11 i wr => ∃ k : Nat, k ≤ n1 ∧ i = .int .i64 k ∧ Below w.heap.size w wr ∧ (∀ r, r < k → (R1 r).length = n0 ∧ (R2 r).length = n0) ∧
      wr.ownsRow w.heap.size 22 1 v8 k (cutCells A1 C1 0 h k) ∧ wr.ownsRow w.heap.size 22 1 v9 k (cutCells A1 C1 h h k) ∧ wr.ownsRow w.heap.size 22 1 v10 k (cutCells A2 C2 0 h k) ∧ wr.ownsRow w.heap.size 22 1 v11 k (cutCells A2 C2 h h k) ∧
      Apart v8 v9 ∧ Apart v8 v10 ∧ Apart v8 v11 ∧ Apart v9 v10 ∧ Apart v9 v11 ∧ Apart v10 v11) (fun _ _ _ _ i _ => n1 - (intOf i).toNat)
  case atStart => exact ⟨0, Nat.zero_le _, rfl, hb, fun r h => by omega, World.ownsRow_nil _ _ _ _, World.ownsRow_nil _ _ _ _, World.ownsRow_nil _ _ _ _, World.ownsRow_nil _ _ _ _, Apart.nil _, Apart.nil _, Apart.nil _, Apart.nil _, Apart.nil _, Apart.nil _⟩
  case round =>
    clear hb
    obtain ⟨k, hk, rfl, hbr, hl, o8, o9, o10, o11, ap89, ap8a, ap8b, ap9a, ap9b, apab⟩ := hrel
    by_cases hlt : k < n1
    · have cx := w1.cell x rfl k hlt
      have cx2 := w2.cell x2 rfl k hlt
      have rk := w1.row k hlt
      have rk2 := w2.row k hlt
      have cr := (w1.below hbr).cell x rfl k hlt
      have cr2 := (w2.below hbr).cell x2 rfl k hlt
      by_cases m1 : (R1 k).length = n0
      case neg =>
        obtain ⟨g, eg⟩ : ∃ g, (R1 k).length = g := ⟨_, rfl⟩
        rw [eg] at m1 cr
        have zg : ((g : Int) == (n0 : Int)) = false := by simp; omega
        clear eg cx cx2 rk rk2 cr2 o8 o9 o10 o11
        go_wp2
        go_ret
        exact ⟨rfl, hbr⟩
      by_cases m2 : (R2 k).length = n0
      case neg =>
        rw [m1] at cr
        obtain ⟨g, eg⟩ : ∃ g, (R2 k).length = g := ⟨_, rfl⟩
        rw [eg] at m2 cr2
        have zg : ((g : Int) == (n0 : Int)) = false := by simp; omega
        clear eg cx cx2 rk rk2 o8 o9 o10 o11
        go_wp2
        go_ret
        exact ⟨rfl, hbr⟩
      have lcx := (e1 k hlt).2
      have lcx2 := (e2 k hlt).2
      rw [m1] at cr cx rk lcx
      rw [m2] at cr2 cx2 rk2 lcx2
      obtain ⟨y, ey⟩ := rk.some_ (by omega)
      obtain ⟨y2, ey2⟩ := rk2.some_ (by omega)
      rw [ey] at cr cx
      rw [ey2] at cr2 cx2
      have E8 := cut0 (C := C1) (h := h) ey
      have E9 := cutH (C := C1) (h := h) ey
      have E10 := cut0 (C := C2) (h := h) ey2
      have E11 := cutH (C := C2) (h := h) ey2
      have Fin : Hid (∀ r, r < k + 1 → (R1 r).length = n0 ∧ (R2 r).length = n0) := fun r hr => by
        by_cases e : r = k
        · subst e; exact ⟨m1, m2⟩
        · exact hl r (by omega)
      clear hl m1 m2 ey ey2 rk rk2
      go_wp2
      refine pk_region x y n1 c1 k n0 h (C1 k) _ _ w.heap.size w k k _ _ (by kernel_rfl) rfl ⟨_, rfl, rfl, rfl, rfl, by kernel_rfl⟩ ⟨_, rfl, rfl, rfl, rfl, by kernel_rfl⟩ ⟨_, rfl, rfl, rfl, rfl, by kernel_rfl⟩ ⟨_, rfl, rfl, rfl, rfl, by kernel_rfl⟩ ⟨_, rfl, rfl, rfl, rfl, by kernel_rfl⟩ ⟨_, rfl, rfl, rfl, rfl, by kernel_rfl⟩ ⟨_, rfl, rfl, rfl, rfl, by kernel_rfl⟩ ⟨_, rfl, rfl, rfl, rfl, by kernel_rfl⟩ ⟨_, rfl, rfl, rfl, rfl, by kernel_rfl⟩ ⟨_, rfl, rfl, rfl, rfl, by kernel_rfl⟩ ⟨_, rfl, rfl, rfl, rfl, by kernel_rfl⟩ ⟨_, rfl, rfl, rfl, rfl, by kernel_rfl⟩ ⟨_, rfl, rfl, rfl, rfl, by kernel_rfl⟩ ⟨_, rfl, rfl, rfl, rfl, by kernel_rfl⟩ ⟨_, rfl, rfl, rfl, rfl, by kernel_rfl⟩ ⟨_, rfl, rfl, rfl, rfl, by kernel_rfl⟩ ⟨_, rfl, rfl, rfl, rfl, by kernel_rfl⟩ ⟨_, rfl, rfl, rfl, rfl, by kernel_rfl⟩ ⟨_, rfl, rfl, rfl, rfl, by kernel_rfl⟩ ⟨_, rfl, rfl, rfl, rfl, by kernel_rfl⟩ ⟨_, rfl, rfl, rfl, rfl, by kernel_rfl⟩ ⟨_, rfl, rfl, rfl, rfl, by kernel_rfl⟩ hbr hbr.size ⟨o8, o9, ap89⟩ (by omega) (by omega) (run_ix23 _ _ _ _ hlt) (fun W hb => run_load22 ((hb.cell (World.block_lt_of_cell? w _ cx)).trans cx)) (run_half n0 h eh hm) (run_front _ _ _ _ (by omega)) (run_ix23 _ _ _ _ hlt) (fun W hb => run_load22 ((hb.cell (World.block_lt_of_cell? w _ cx)).trans cx)) (run_half n0 h eh hm) (run_back _ _ _ _ _ (by omega) lcx ehh) rfl rfl rfl rfl rfl (Nat.le_of_ble_eq_true rfl) ?_
      intro ak W9k pk1 pk2 hsk hdk hkpk hB9k hQ9k hS1k hS2k hT9k er1k er2k
      have epk := frame_puts [69, 70, 71, 72, 73, 74, 75, 76, 77, 78, 79, 80, 81, 82, 83, 84, 85, 86, 87, 88, 8, 9] hsk hdk (fun s h => hkpk s (fun i hi e => h (by
        rcases (show i = 0 ∨ i = 1 ∨ i = 2 ∨ i = 3 ∨ i = 4 ∨ i = 5 ∨ i = 6 ∨ i = 7 ∨ i = 8 ∨ i = 9 ∨ i = 10 ∨ i = 11 ∨ i = 12 ∨ i = 13 ∨ i = 14 ∨ i = 15 ∨ i = 16 ∨ i = 17 ∨ i = 18 ∨ i = 19 ∨ i = 20 ∨ i = 21 by omega) with rfl | rfl | rfl | rfl | rfl | rfl | rfl | rfl | rfl | rfl | rfl | rfl | rfl | rfl | rfl | rfl | rfl | rfl | rfl | rfl | rfl | rfl <;> (simp only [pkD, Option.some.injEq] at e; subst e; simp))))
      simp only [List.foldl] at epk
      rw [er1k, er2k] at epk
      clear hsk hdk hkpk er1k er2k
      generalize ak.tmps.getD 69 undef = gk69 at epk
      generalize ak.tmps.getD 70 undef = gk70 at epk
      generalize ak.tmps.getD 71 undef = gk71 at epk
      generalize ak.tmps.getD 72 undef = gk72 at epk
      generalize ak.tmps.getD 73 undef = gk73 at epk
      generalize ak.tmps.getD 74 undef = gk74 at epk
      generalize ak.tmps.getD 75 undef = gk75 at epk
      generalize ak.tmps.getD 76 undef = gk76 at epk
      generalize ak.tmps.getD 77 undef = gk77 at epk
      generalize ak.tmps.getD 78 undef = gk78 at epk
      generalize ak.tmps.getD 79 undef = gk79 at epk
      generalize ak.tmps.getD 80 undef = gk80 at epk
      generalize ak.tmps.getD 81 undef = gk81 at epk
      generalize ak.tmps.getD 82 undef = gk82 at epk
      generalize ak.tmps.getD 83 undef = gk83 at epk
      generalize ak.tmps.getD 84 undef = gk84 at epk
      generalize ak.tmps.getD 85 undef = gk85 at epk
      generalize ak.tmps.getD 86 undef = gk86 at epk
      generalize ak.tmps.getD 87 undef = gk87 at epk
      generalize ak.tmps.getD 88 undef = gk88 at epk
      simp only [Act.put, List.setIfInBounds_toArray, List.set_cons_succ, List.set_cons_zero] at epk
      subst epk
      have o10k := hQ9k.row o10 ap8a.symm ap9a.symm
      have o11k := hQ9k.row o11 ap8b.symm ap9b.symm
      have a8a := (other_apart o10 ap8a.symm hS1k).symm
      have a9a := (other_apart o10 ap9a.symm hS2k).symm
      have a8b := (other_apart o11 ap8b.symm hS1k).symm
      have a9b := (other_apart o11 ap9b.symm hS2k).symm
      clear o8 o9 o10 o11 ap89 ap8a ap8b ap9a ap9b hS1k hS2k hQ9k hbr
      go_wp2
      refine pv_region x2 y2 n1 c2 k n0 h (C2 k) _ _ w.heap.size w k k _ _ (by kernel_rfl) rfl ⟨_, rfl, rfl, rfl, rfl, by kernel_rfl⟩ ⟨_, rfl, rfl, rfl, rfl, by kernel_rfl⟩ ⟨_, rfl, rfl, rfl, rfl, by kernel_rfl⟩ ⟨_, rfl, rfl, rfl, rfl, by kernel_rfl⟩ ⟨_, rfl, rfl, rfl, rfl, by kernel_rfl⟩ ⟨_, rfl, rfl, rfl, rfl, by kernel_rfl⟩ ⟨_, rfl, rfl, rfl, rfl, by kernel_rfl⟩ ⟨_, rfl, rfl, rfl, rfl, by kernel_rfl⟩ ⟨_, rfl, rfl, rfl, rfl, by kernel_rfl⟩ ⟨_, rfl, rfl, rfl, rfl, by kernel_rfl⟩ ⟨_, rfl, rfl, rfl, rfl, by kernel_rfl⟩ ⟨_, rfl, rfl, rfl, rfl, by kernel_rfl⟩ ⟨_, rfl, rfl, rfl, rfl, by kernel_rfl⟩ ⟨_, rfl, rfl, rfl, rfl, by kernel_rfl⟩ ⟨_, rfl, rfl, rfl, rfl, by kernel_rfl⟩ ⟨_, rfl, rfl, rfl, rfl, by kernel_rfl⟩ ⟨_, rfl, rfl, rfl, rfl, by kernel_rfl⟩ ⟨_, rfl, rfl, rfl, rfl, by kernel_rfl⟩ ⟨_, rfl, rfl, rfl, rfl, by kernel_rfl⟩ ⟨_, rfl, rfl, rfl, rfl, by kernel_rfl⟩ ⟨_, rfl, rfl, rfl, rfl, by kernel_rfl⟩ ⟨_, rfl, rfl, rfl, rfl, by kernel_rfl⟩ hB9k hB9k.size ⟨o10k, o11k, apab⟩ (by omega) (by omega) (run_ix23 _ _ _ _ hlt) (fun W hb => run_load22 ((hb.cell (World.block_lt_of_cell? w _ cx2)).trans cx2)) (run_half n0 h eh hm) (run_front _ _ _ _ (by omega)) (run_ix23 _ _ _ _ hlt) (fun W hb => run_load22 ((hb.cell (World.block_lt_of_cell? w _ cx2)).trans cx2)) (run_half n0 h eh hm) (run_back _ _ _ _ _ (by omega) lcx2 ehh) rfl rfl rfl rfl rfl (Nat.le_of_ble_eq_true rfl) ?_
      intro av W9v pv1 pv2 hsv hdv hkpv hB9v hQ9v hS1v hS2v hT9v er1v er2v
      have epv := frame_puts [89, 90, 91, 92, 93, 94, 95, 96, 97, 98, 99, 100, 101, 102, 103, 104, 105, 106, 107, 108, 10, 11] hsv hdv (fun s h => hkpv s (fun i hi e => h (by
        rcases (show i = 0 ∨ i = 1 ∨ i = 2 ∨ i = 3 ∨ i = 4 ∨ i = 5 ∨ i = 6 ∨ i = 7 ∨ i = 8 ∨ i = 9 ∨ i = 10 ∨ i = 11 ∨ i = 12 ∨ i = 13 ∨ i = 14 ∨ i = 15 ∨ i = 16 ∨ i = 17 ∨ i = 18 ∨ i = 19 ∨ i = 20 ∨ i = 21 by omega) with rfl | rfl | rfl | rfl | rfl | rfl | rfl | rfl | rfl | rfl | rfl | rfl | rfl | rfl | rfl | rfl | rfl | rfl | rfl | rfl | rfl | rfl <;> (simp only [pvD, Option.some.injEq] at e; subst e; simp))))
      simp only [List.foldl] at epv
      rw [er1v, er2v] at epv
      clear hsv hdv hkpv er1v er2v
      generalize av.tmps.getD 89 undef = gv89 at epv
      generalize av.tmps.getD 90 undef = gv90 at epv
      generalize av.tmps.getD 91 undef = gv91 at epv
      generalize av.tmps.getD 92 undef = gv92 at epv
      generalize av.tmps.getD 93 undef = gv93 at epv
      generalize av.tmps.getD 94 undef = gv94 at epv
      generalize av.tmps.getD 95 undef = gv95 at epv
      generalize av.tmps.getD 96 undef = gv96 at epv
      generalize av.tmps.getD 97 undef = gv97 at epv
      generalize av.tmps.getD 98 undef = gv98 at epv
      generalize av.tmps.getD 99 undef = gv99 at epv
      generalize av.tmps.getD 100 undef = gv100 at epv
      generalize av.tmps.getD 101 undef = gv101 at epv
      generalize av.tmps.getD 102 undef = gv102 at epv
      generalize av.tmps.getD 103 undef = gv103 at epv
      generalize av.tmps.getD 104 undef = gv104 at epv
      generalize av.tmps.getD 105 undef = gv105 at epv
      generalize av.tmps.getD 106 undef = gv106 at epv
      generalize av.tmps.getD 107 undef = gv107 at epv
      generalize av.tmps.getD 108 undef = gv108 at epv
      simp only [Act.put, List.setIfInBounds_toArray, List.set_cons_succ, List.set_cons_zero] at epv
      subst epv
      have o8v := hQ9v.row hT9k.o1 a8a a8b
      have o9v := hQ9v.row hT9k.o2 a9a a9b
      have b8a := other_apart hT9k.o1 a8a hS1v
      have b8b := other_apart hT9k.o1 a8b hS2v
      have b9a := other_apart hT9k.o2 a9a hS1v
      have b9b := other_apart hT9k.o2 a9b hS2v
      have Fin2 : Hid (Below w.heap.size w W9v ∧ W9v.ownsRow w.heap.size 22 1 pk1 (k + 1) (cutCells A1 C1 0 h (k + 1)) ∧ W9v.ownsRow w.heap.size 22 1 pk2 (k + 1) (cutCells A1 C1 h h (k + 1)) ∧ W9v.ownsRow w.heap.size 22 1 pv1 (k + 1) (cutCells A2 C2 0 h (k + 1)) ∧ W9v.ownsRow w.heap.size 22 1 pv2 (k + 1) (cutCells A2 C2 h h (k + 1)) ∧
          Apart pk1 pk2 ∧ Apart pk1 pv1 ∧ Apart pk1 pv2 ∧ Apart pk2 pv1 ∧ Apart pk2 pv2 ∧ Apart pv1 pv2) := by
        rw [E8, E9, E10, E11]
        exact ⟨hB9v, o8v, o9v, hT9v.o1, hT9v.o2, hT9k.ap, b8a, b8b, b9a, b9b, hT9v.ap⟩
      clear o8v o9v hT9v hT9k b8a b8b b9a b9b a8a a8b a9a a9b hB9v hB9k hQ9v hS1v hS2v o10k o11k apab E8 E9 E10 E11
      go_wp2
      go_roundw
      case rel => exact ⟨k + 1, by omega, by go_num, Fin2.out.1, Fin.out, Fin2.out.2⟩
      case measure => simp [intOf]; omega
    · have e : k = n1 := by omega
      subst e
      obtain ⟨s8, t8, rfl, G8⟩ := cut_own (w1.below hbr) h0 (fun r hr => by rw [(hl r hr).1]; omega) o8
      obtain ⟨s9, t9, rfl, G9⟩ := cut_own (w1.below hbr) h0 (fun r hr => by rw [(hl r hr).1]; omega) o9
      obtain ⟨s10, t10, rfl, G10⟩ := cut_own (w2.below hbr) h0 (fun r hr => by rw [(hl r hr).2]; omega) o10
      obtain ⟨s11, t11, rfl, G11⟩ := cut_own (w2.below hbr) h0 (fun r hr => by rw [(hl r hr).2]; omega) o11
      clear o8 o9 o10 o11 ap89 ap8a ap8b ap9a ap9b apab
      have hk0 : 0 < k := by omega
      have ka := all_yes x0 n0 c0 2 z0 (some x) k c1 A1 C1 R1 (some x2) c2 A2 C2 R2 wr (w0.below hbr) l0 (w1.below hbr) (fun r h => (e1 r h).2) (w2.below hbr) (fun r h => (e2 r h).2) (by decide) (by omega) hk0 q2 hl (by omega) (by omega)
      rw [eh, all_two] at ka
      have ln1 : ∀ r, r < k → (cutR R1 0 h r).length = h ∧ (cutR R2 0 h r).length = h := fun r hr => ⟨cutR_length _ _ _ _ (by rw [(hl r hr).1]; omega), cutR_length _ _ _ _ (by rw [(hl r hr).2]; omega)⟩
      have ln2 : ∀ r, r < k → (cutR R1 h h r).length = h ∧ (cutR R2 h h r).length = h := fun r hr => ⟨cutR_length _ _ _ _ (by rw [(hl r hr).1]; omega), cutR_length _ _ _ _ (by rw [(hl r hr).2]; omega)⟩
      have k1 := fun (W : World) (hb : Below wr.heap.size wr W) => head_yes (some x0) h c0 ((z0.drop 0).take h) s8 k t8 (cutA A1 0) (fun r => C1 r - 0) (cutR R1 0 h) s10 t10 (cutA A2 0) (fun r => C2 r - 0) (cutR R2 0 h) W (by have := ((w0.below hbr).below hb).cut 0 h (by omega); rwa [Addr.add_zero'] at this) (G8.below hb) (G10.below hb) h0 hk0 ln1 (by omega) (by omega)
      have k2 := fun (W : World) (hb : Below wr.heap.size wr W) => head_yes (some (x0.add h)) h (c0 - h) ((z0.drop h).take h) s9 k t9 (cutA A1 h) (fun r => C1 r - h) (cutR R1 h h) s11 t11 (cutA A2 h) (fun r => C2 r - h) (cutR R2 h h) W (((w0.below hbr).below hb).cut h h (by omega)) (G9.below hb) (G11.below hb) h0 hk0 ln2 (by omega) (by omega)
      have lo1 := headZ_length ((z0.drop 0).take h) (cutR R1 0 h) (cutR R2 0 h) h k
      have lo2 := headZ_length ((z0.drop h).take h) (cutR R1 h h) (cutR R2 h h) h k
      obtain ⟨O1, eO1⟩ : ∃ O, headZ ((z0.drop 0).take h) (cutR R1 0 h) (cutR R2 0 h) h k = O := ⟨_, rfl⟩
      obtain ⟨O2, eO2⟩ : ∃ O, headZ ((z0.drop h).take h) (cutR R1 h h) (cutR R2 h h) h k = O := ⟨_, rfl⟩
      simp only [eO1] at k1
      simp only [eO2] at k2
      rw [eO1, eO2] at ka
      rw [eO1] at lo1
      rw [eO2] at lo2
      clear eO1 eO2 G8 G9 G10 G11 ln1 ln2 hl
      have hhn : h ≤ n0 := by omega
      have hc0 : ¬c0 = h := by omega
      have hhc : h ≤ c0 := by omega
      have eO1 : ((O1 ++ O2).drop 0).take h = O1 := by rw [List.drop_zero, ← lo1, List.take_left]
      have eO2 : ((O1 ++ O2).drop h).take h = O2 := by rw [← lo1, List.drop_left]; rw [lo1, ← lo2, List.take_length]
      go_wp2_with (first
        | (go_at_call 12; refine ka.mono ?_; rintro e W2 ⟨⟨pa, qa, rfl, ra, la⟩, d2⟩
           obtain ⟨xa, rfl⟩ := ra.some_ (by omega)
           have ra1 : Reads .i64 W2 (some xa) h O1 := (by have := ra.cut 0 h (by omega); rwa [Addr.add_zero', eO1] at this)
           have ra2 : Reads .i64 W2 (some (xa.add h)) h O2 := (by have := ra.cut h h (by omega); rwa [eO2] at this)
           have hqa : ¬qa = h := by omega
           have hhq : h ≤ qa := by omega
           clear ra ka)
        | (go_at_call_of 9 (Value.slice s8 k t8); refine (k1 W2 d2).mono ?_; rintro e W3 ⟨⟨p3, q3', rfl, r3, -⟩, d3⟩; replace ra1 := ra1.below d3; replace ra2 := ra2.below d3; have d23 := below_then d2 d3; clear d3 k1)
        | (go_at_call_of 9 (Value.slice s9 k t9); refine (k2 W3 d23).mono ?_; rintro e W4 ⟨⟨p4, q4', rfl, r4, -⟩, d4⟩; replace ra1 := ra1.below d4; replace ra2 := ra2.below d4; replace r3 := r3.below d4; have d34 := below_then d23 d4; clear d4 k2)
        | (go_at_call_of 14 (Value.slice p3 h q3'); refine (same_call _ _ _ O1 _ _ _ _ ra1 r3).mono ?_; rintro e W5 ⟨rfl, hq⟩; have d5 := below_drew (Below.refl W4.heap.size W4) hq; replace ra2 := ra2.below d5; replace r4 := r4.below d5; have d45 := below_then d34 d5; clear d5 hq ra1 r3)
        | (go_at_call_of 14 (Value.slice p4 h q4'); refine (same_call _ _ _ O2 _ _ _ _ ra2 r4).mono ?_; rintro e W6 ⟨rfl, hq⟩; have d6 := below_drew (Below.refl W5.heap.size W5) hq; have hbz := below_then hbr (below_then d45 d6); clear d6 hq ra2 r4))
      go_ret
      exact ⟨by simp, hbz⟩

theorem contract (H : Type) (enc : TypeId × Value → H) (W : World) (base : Nat) (args : Array Value) (ds gs : List (DataW H)) (before : List MemPlace)
    (hval0 : ∀ (j : Nat) t v, Try.f6.params[j]? = some t → args[j]? = some v → Value.okWide Try.prog W .any base t v)
    (hW : DataW.Whole enc Try.prog Try.f6.params.toList Rows.attnPartsSpec.vars false W args.toList ds gs before)
    (hsz0 : (DataW.weightsEach Try.prog (Try.f6.params.toList ++ Rows.attnPartsSpec.plain.varTypes Try.prog) (ds ++ gs)).all (· ≤ reachBytes) = true) :
    Calls Try.prog 6 args W fun e W' => ∃ v, e = .returned v ∧ Rows.attnPartsSpec.post enc Try.prog Try.f6 false true false false W args v W' := by
  have hval : ∀ (j : Nat) t v, Try.f6.params[j]? = some t → args[j]? = some v → Value.okWide Try.prog W .any base t v := hval0
  have hW' := hW
  obtain ⟨p, q, hA0, hV, rfl, hfz, hnd⟩ := hW
  have hA : DataW.TrodAll enc Try.prog W 0 (fun _ => true) true Try.f6.params.toList args.toList ds p := hA0
  have hsz : (DataW.weightsEach Try.prog (Try.f6.params.toList ++ Rows.attnPartsSpec.plain.varTypes Try.prog) (ds ++ gs)).all (· ≤ reachBytes) = true := hsz0
  rw [Try.params6] at hA hval hsz
  obtain ⟨v0, vs0, d0, ds0, p0, q0, hargs, rfl, rfl, h0, r0⟩ := trodAll_cons hA
  obtain ⟨v1, vs1, d1, ds1, p1, q1, rfl, rfl, rfl, h1, r1⟩ := trodAll_cons r0
  obtain ⟨v2, vs2, d2, ds2, p2, q2, rfl, rfl, rfl, h2, r2⟩ := trodAll_cons r1
  obtain ⟨rfl, rfl, rfl⟩ := trodAll_nil r2
  obtain rfl : args = #[v0, v1, v2] := by cases args; simp_all
  obtain ⟨rfl, rfl⟩ := trodVars_none hV
  obtain ⟨a0, n0, c0, rfl⟩ := okWide_slice Try.underlying22 (hval 0 22 v0 rfl rfl)
  have k0 := h0
  have lt0 : ∀ x ∈ p0, x.block < W.heap.size := by obtain ⟨m, hm⟩ := k0; exact DataW.trod_lt m _ _ _ hm
  obtain ⟨z0, w0, e0, l0, s0⟩ : ∃ zs, Reads .i64 W a0 n0 zs ∧ (a0 = none → c0 = 0) ∧ n0 ≤ c0 ∧ (n0 = 0 ∨ ∃ el sp, d0 = .slice el sp ∧ n0 ≤ el.length + sp.length) := by
    obtain ⟨fuel, hf⟩ := h0
    rcases open_ints Try.underlying22 Try.underlying2 (by kernel_rfl) hf with ⟨hcs, hd⟩ | ⟨x, l, c, zs, hcs, _, hl, hm, hz, hd, hcell, hwz⟩
    · simp [Value.cells] at hcs
      obtain ⟨rfl, rfl, rfl⟩ := hcs
      exact ⟨[], Reads.nil _ _, fun _ => rfl, Nat.le_refl _, .inl rfl⟩
    · simp [Value.cells] at hcs
      obtain ⟨rfl, rfl, rfl⟩ := hcs
      exact ⟨_, Reads.of_open hl hm (by simpa using hz) hcell hwz, (fun h => by cases h), hl, .inr ⟨_, _, congrArg Prod.fst hd, open_length (by simpa using hz) hl⟩⟩
  obtain ⟨a1, n1, c1, rfl⟩ := okWide_slice Try.underlying23 (hval 1 23 v1 rfl rfl)
  have k1 := h1
  have lt1 : ∀ x ∈ p1, x.block < W.heap.size := by obtain ⟨m, hm⟩ := k1; exact DataW.trod_lt m _ _ _ hm
  obtain ⟨A1, C1, R1, w1, e1, l1, f1, s1⟩ := open_grid h1
  obtain ⟨b1, g1⟩ := s1 _ _ 1 hsz rfl rfl
  obtain ⟨a2, n2, c2, rfl⟩ := okWide_slice Try.underlying23 (hval 2 23 v2 rfl rfl)
  have k2 := h2
  have lt2 : ∀ x ∈ p2, x.block < W.heap.size := by obtain ⟨m, hm⟩ := k2; exact DataW.trod_lt m _ _ _ hm
  obtain ⟨A2, C2, R2, w2, e2, l2, f2, s2⟩ := open_grid h2
  obtain ⟨b2, g2⟩ := s2 _ _ 2 hsz rfl rfl
  have b0 : n0 * 8 ≤ 140737488351232 := by
    rcases s0 with rfl | ⟨el, sp, rfl, hle⟩
    · decide
    · have := sized_slice hsz (j := 0) (t := 22) (e := 2) rfl rfl Try.underlying22
      rw [bytes2] at this
      simp only [reachBytes] at this
      omega
  clear hA0 hval0
  refine (walk a0 n0 c0 z0 a1 n1 c1 A1 C1 R1 a2 n2 c2 A2 C2 R2 W w0 e0 l0 w1 e1 l1 f1 w2 e2 l2 f2 b0 b1 g1 b2 g2).mono fun e W' ⟨he, bel⟩ => ?_
  subst he
  exact ⟨_, rfl, _, _, _, [], _, [], hW', trodAll_mk1 (shut_bool Try.underlying4 _), (trodAll_cons_mk (Below.trod laidOut (by kernel_rfl) (of_decide_eq_true (by kernel_rfl)) k0 bel lt0) (trodAll_cons_mk (Below.trod laidOut (by kernel_rfl) (of_decide_eq_true (by kernel_rfl)) k1 bel lt1) (trodAll_cons_mk (Below.trod laidOut (by kernel_rfl) (of_decide_eq_true (by kernel_rfl)) k2 bel lt2) trodAll_mk0))), rfl, bel.frame _, fun h => by cases h⟩

set_option maxRecDepth 100000 in
theorem lifted (os : Os) (started : os.Started) (H : Type) (enc : TypeId × Value → H) :
    ReturnsInHanded {} Try.checked os 6 .any (Rows.attnPartsSpec.pre6 enc Try.prog Try.f6 Rows.attnPartsRow.domain false) (Rows.attnPartsSpec.post enc Try.prog Try.f6 false true false false) := by
  refine returnsInHanded_of_change_sized (C := Try.checked) own started (by kernel_rfl) Try.func6
    (ChangeSpec.witness6 (enc := enc) (C := Try.checked) false ⟨#[], #[.slice none 0 0, .slice none 0 0, .slice none 0 0], []⟩ 8 (by kernel_rfl) (by kernel_rfl) (by kernel_rfl) (by kernel_rfl)) ?_
  intro W base args ds gs before hval hW _ hsz _
  exact contract H enc W base args ds gs before hval hW hsz

theorem over : Rows.attnPartsRow.holds Try.pinned (OpenSpec.ofChange Rows.attnPartsSpec) :=
  OpenClaim.holds_of_wide 6 Try.f6 rfl rfl rfl rfl rfl rfl rfl ⟨rfl, rfl, rfl, rfl, rfl⟩ rfl rfl rfl rfl rfl (by kernel_rfl) Try.func6 (by kernel_rfl)
    (of_decide_eq_true (by kernel_rfl)) (by unfold Func.isWrapper; first | (rw [if_pos (by decide +kernel)]; kernel_rfl) | (rw [if_neg (by decide +kernel)]; exact ⟨rfl, rfl⟩))
    (fun os started H enc _ => lifted os started H enc)

theorem proved : Rows.AttnPartsSaid :=
  over
#print axioms proved
end Go.Proofs.Ythbddbipmoflfaa.attnParts
