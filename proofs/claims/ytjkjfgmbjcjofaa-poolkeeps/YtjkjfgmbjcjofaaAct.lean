/- One act on both pools: the four that take one number. -/
import Derived.Test.YtjkjfgmbjcjofaaRows
import Derived.Test.YtjkjfgmbjcjofaaPages
import Derived.Test.YtjkjfgmbjcjofaaView
import Derived.Test.YtjkjfgmbjcjofaaOwn
import Derived.Test.YtjkjfgmbjcjofaaSame
import Derived.Test.YtjkjfgmbjcjofaaReadsP
import Derived.Test.YtjkjfgmbjcjofaaReadsQ
import Derived.Test.YtjkjfgmbjcjofaaRefPg
import Derived.Test.YtjkjfgmbjcjofaaRefRd
import Derived.Test.YtjkjfgmbjcjofaaLeast
import Derived.Test.YtjkjfgmbjcjofaaLays
import Derived.Test.YtjkjfgmbjcjofaaTurns
import Derived.Test.YtjkjfgmbjcjofaaRefTk
import Derived.Test.YtjkjfgmbjcjofaaRefLays
import Derived.Test.YtjkjfgmbjcjofaaRefTurns
import Derived.Test.YtjkjfgmbjcjofaaGoods
import Derived.Test.YtjkjfgmbjcjofaaOpenOps
import Derived.WalkKit
import Derived.ProofKit
import Derived.OpenShut
import Derived.Below
import Derived.WalkLawsBesides
import Derived.Deep.QuietTactic
import Derived.BigQuiet
import Derived.Deep.RegionWith
import Derived.Deep.RegionHeld3
namespace Go.Proofs.Ytjkjfgmbjcjofaa
open Go.ChangeShapes Go.WideShapes Go.ChangeAt Go.RowKit
set_option linter.unusedVariables false

/-- what either pool is made of -/
def T2 (t : TypeId) : Bool := TP t || TR t

theorem Off.wide {B : Nat} {T T' : TypeId → Bool} {w w' : World} (h : Off B T w w') (hT : ∀ t, T t = true → T' t = true) : Off B T' w w' :=
  ⟨h.os, h.tape, h.output, h.size, fun k hk hc => h.block k hk (by
    rcases hc with hc | hc
    · exact .inl hc
    · refine .inr fun t ht => ?_
      cases e : T t with
      | false => rfl
      | true => exact absurd (hT t e) (by simp [hc t ht]))⟩
theorem Off.wideP {B : Nat} {w w' : World} (h : Off B TP w w') : Off B T2 w w' := h.wide fun t ht => by simp [T2, ht]
theorem Off.wideR {B : Nat} {w w' : World} (h : Off B TR w w') : Off B T2 w w' := h.wide fun t ht => by simp [T2, ht]

/-- an act that lies in a variable -/
structure BoxAt (w : World) (x : Nat) (o : OpV) : Prop where
  row : Row 31 w x 5
  c0 : w.cell? ⟨x, 0, none⟩ = some (.int .i64 o.k)
  c1 : w.cell? ⟨x, 1, none⟩ = some (.string o.t)
  c2 : w.cell? ⟨x, 2, none⟩ = some (.int .i64 o.n)
  c3 : w.cell? ⟨x, 3, none⟩ = some (.int .i64 o.c)
  c4 : w.cell? ⟨x, 4, none⟩ = some (.int .i64 o.v)
theorem BoxAt.of_block {w w' : World} {x : Nat} {o : OpV} (h : BoxAt w x o) (e : w'.heap[x]? = w.heap[x]?) : BoxAt w' x o :=
  ⟨h.row.of_block e, (cell_of_block e _).trans h.c0, (cell_of_block e _).trans h.c1, (cell_of_block e _).trans h.c2, (cell_of_block e _).trans h.c3, (cell_of_block e _).trans h.c4⟩
theorem BoxAt.off {B : Nat} {T : TypeId → Bool} {w w' : World} {x : Nat} {o : OpV} (h : BoxAt w x o) (f : Off B T w w') (hT : T 31 = false) : BoxAt w' x o := h.of_block (f.row h.row hT)
theorem BoxAt.below {w w' : World} {x : Nat} {o : OpV} (h : BoxAt w x o) (f : Below w.heap.size w w') : BoxAt w' x o := h.of_block (f.block x h.row.lt)

def boxC (o : OpV) : Array Value := #[.int .i64 o.k, .string o.t, .int .i64 o.n, .int .i64 o.c, .int .i64 o.v]
theorem BoxAt.new (w : World) (o : OpV) : BoxAt (w.alloc (.cells (boxC o) 31)) w.heap.size o := by
  have e : (w.alloc (.cells (boxC o) 31)).heap[w.heap.size]? = some (.cells (boxC o) 31) := heap_alloc_new w _
  refine ⟨⟨_, e, rfl⟩, ?_, ?_, ?_, ?_, ?_⟩ <;> (unfold World.cell?; rw [e]; rfl)

/-- what an act makes of a pool -/
def actS (s : Pl) (o : OpV) : Pl := if o.k = 0 then takeS s o.t o.n else if o.k = 1 then resS s o.n else if o.k = 2 then unS s o.n else if o.k = 3 then drawS s o.t o.n else if o.k = 4 then shS s o.n else if o.k = 5 then drS s o.n else if o.k = 6 then putS s o.n o.c o.v else s

theorem good_act {m : Nat} {s : Pl} (h : Good m s) (hm : 1 ≤ m) (o : OpV) : Good (m + 1) (actS s o) := by
  have l := Nat.le_succ m
  unfold actS
  split
  · exact (h.takeS hm _ _).mono l
  · split
    · exact (h.resS _).mono l
    · split
      · exact (h.unS _).mono l
      · split
        · exact (h.drawS hm _ _).mono l
        · split
          · exact h.shS _
          · split
            · exact (h.drS _).mono l
            · split
              · exact (h.putS _ _ _).mono l
              · exact h.mono l

/-- both pools as they are behind an act -/
def Both (B : Nat) (w' : World) (b g b' g' : Nat) (s : Pl) : Prop := PoolAt B w' b g s ∧ ∃ r', RefAt B w' b' g' s r'

theorem act_res {B m : Nat} {w : World} {b g b' g' : Nat} {s : Pl} {r : Nat → Nat} (h : PoolAt B w b g s) (h' : RefAt B w b' g' s r) (hG : Good m s) (hm : m ≤ 1000000) (o : OpV) (hk : o.k = 1) :
    Calls Try.prog 9 #[.pointer (some ⟨b, 0, none⟩), .pointer (some ⟨b', 0, none⟩), .agg (boxC o)] w fun e w' => e = .returned (.bool true) ∧ Both B w' b g b' g' (resS s o.n) ∧ Off B T2 w w' := by
  have hB : B ≤ w.heap.size := h.lt
  have hbx := BoxAt.new w o
  have hA := below_new (Below.refl w.heap.size w) (.cells (boxC o) 31)
  have hp := hidden_ (h.below hA)
  have hr := hidden_ (h'.below hA)
  have hof := hidden_ (Off.of_below (B := B) (T := T2) hA)
  unfold boxC at hbx hp hr hof ⊢
  obtain ⟨k, t, n, c, v⟩ := o
  simp only at hk
  subst hk
  obtain ⟨A, eA⟩ : ∃ A, w.alloc (.cells #[.int .i64 1, .string t, .int .i64 n, .int .i64 c, .int .i64 v] 31) = A := ⟨_, rfl⟩
  simp only at hbx hp hr hof ⊢
  rw [eA] at hbx hp hr hof
  have c0 := hbx.c0
  have c1 := hbx.c1
  have c2 := hbx.c2
  have c3 := hbx.c3
  have c4 := hbx.c4
  simp only at c0 c1 c2 c3 c4
  clear h h' hA

  have kP := fun (W : World) (q : PoolAt B W b g s) => reserve_call q hG n
  have kR := fun (W : World) (q : RefAt B W b' g' s r) => refReserve_call q hG n
  obtain ⟨E, eE⟩ : ∃ E, resE s n = E := ⟨_, rfl⟩
  simp only [eE] at kP kR
  obtain ⟨S, eS⟩ : ∃ S, resS s n = S := ⟨_, rfl⟩
  simp only [eS] at kP kR
  show Calls Try.prog 9 _ w fun e w' => e = .returned (.bool true) ∧ Both B w' b g b' g' (resS s n) ∧ Off B T2 w w'
  rw [eS]
  clear eE eS hG
  have key : Hid (∀ W, Off B TP A.drew W → BoxAt W w.heap.size ⟨1, t, n, c, v⟩ ∧ RefAt B W b' g' s r ∧ Off B T2 w W) := fun W q => by
    have q' : Off B TP A W := ⟨q.os, q.tape, q.output, q.size, q.block⟩
    exact ⟨hbx.off q' rfl, hr.out.off q' rfl rfl rfl, hof.out.trans q'.wideP⟩
  have key2 : Hid (∀ W W' : World, BoxAt W w.heap.size ⟨1, t, n, c, v⟩ → PoolAt B W b g S → Off B T2 w W → Off B TR W W' → BoxAt W' w.heap.size ⟨1, t, n, c, v⟩ ∧ PoolAt B W' b g S ∧ Off B T2 w W') := fun W W' q1 q2 q3 q4 => ⟨q1.off q4 rfl, q2.off q4 rfl rfl, q3.trans q4.wideR⟩
  have hpD : Hid (PoolAt B A.drew b g s) := hp.out.drewN 1
  clear hbx
  go_enter Try.func9, Try.ntmps9
  go_wp2
  go_region_held3 (fun W => W.cell? ⟨w.heap.size, 2, none⟩ = some (.int .i64 n)) (first | assumption | (exact ⟨c2, c2⟩) | exact c2) (first
    | (go_at_call 17; refine (kP _ hpD.out).mono ?_; rintro e W2 ⟨rfl, q1, o1⟩; obtain ⟨bx, rr, of⟩ := key.out W2 o1; have hq := hidden_ (And.intro q1 (And.intro rr (And.intro bx of))); have d2 := bx.c2; simp only at d2; clear q1 rr bx of o1)
    | (go_at_call 28; refine (kR _ hq.out.2.1).mono ?_; rintro e W3 ⟨rfl, r1, o2⟩; obtain ⟨bx2, pp, of2⟩ := key2.out _ W3 hq.out.2.2.1 hq.out.1 hq.out.2.2.2 o2; have hq2 := hidden_ (And.intro pp (And.intro r1 of2)); have d3 := bx2.c2; simp only at d3; clear bx2 pp of2 r1 o2))
  all_goals
    clear kP kR key key2
    go_wp2
    go_ret
    exact ⟨by simp, ⟨hq2.out.1, ⟨_, hq2.out.2.1⟩⟩, hq2.out.2.2⟩

theorem act_un {B m : Nat} {w : World} {b g b' g' : Nat} {s : Pl} {r : Nat → Nat} (h : PoolAt B w b g s) (h' : RefAt B w b' g' s r) (hG : Good m s) (hm : m ≤ 1000000) (o : OpV) (hk : o.k = 2) :
    Calls Try.prog 9 #[.pointer (some ⟨b, 0, none⟩), .pointer (some ⟨b', 0, none⟩), .agg (boxC o)] w fun e w' => e = .returned (.bool true) ∧ Both B w' b g b' g' (unS s o.n) ∧ Off B T2 w w' := by
  have hB : B ≤ w.heap.size := h.lt
  have hbx := BoxAt.new w o
  have hA := below_new (Below.refl w.heap.size w) (.cells (boxC o) 31)
  have hp := hidden_ (h.below hA)
  have hr := hidden_ (h'.below hA)
  have hof := hidden_ (Off.of_below (B := B) (T := T2) hA)
  unfold boxC at hbx hp hr hof ⊢
  obtain ⟨k, t, n, c, v⟩ := o
  simp only at hk
  subst hk
  obtain ⟨A, eA⟩ : ∃ A, w.alloc (.cells #[.int .i64 2, .string t, .int .i64 n, .int .i64 c, .int .i64 v] 31) = A := ⟨_, rfl⟩
  simp only at hbx hp hr hof ⊢
  rw [eA] at hbx hp hr hof
  have c0 := hbx.c0
  have c1 := hbx.c1
  have c2 := hbx.c2
  have c3 := hbx.c3
  have c4 := hbx.c4
  simp only at c0 c1 c2 c3 c4
  clear h h' hA

  have kP := fun (W : World) (q : PoolAt B W b g s) => unreserve_call q hG n
  have kR := fun (W : World) (q : RefAt B W b' g' s r) => refUnreserve_call q hG n
  obtain ⟨E, eE⟩ : ∃ E, unE s n = E := ⟨_, rfl⟩
  simp only [eE] at kP kR
  obtain ⟨S, eS⟩ : ∃ S, unS s n = S := ⟨_, rfl⟩
  simp only [eS] at kP kR
  show Calls Try.prog 9 _ w fun e w' => e = .returned (.bool true) ∧ Both B w' b g b' g' (unS s n) ∧ Off B T2 w w'
  rw [eS]
  clear eE eS hG
  have key : Hid (∀ W, Off B TP A.drew W → BoxAt W w.heap.size ⟨2, t, n, c, v⟩ ∧ RefAt B W b' g' s r ∧ Off B T2 w W) := fun W q => by
    have q' : Off B TP A W := ⟨q.os, q.tape, q.output, q.size, q.block⟩
    exact ⟨hbx.off q' rfl, hr.out.off q' rfl rfl rfl, hof.out.trans q'.wideP⟩
  have key2 : Hid (∀ W W' : World, BoxAt W w.heap.size ⟨2, t, n, c, v⟩ → PoolAt B W b g S → Off B T2 w W → Off B TR W W' → BoxAt W' w.heap.size ⟨2, t, n, c, v⟩ ∧ PoolAt B W' b g S ∧ Off B T2 w W') := fun W W' q1 q2 q3 q4 => ⟨q1.off q4 rfl, q2.off q4 rfl rfl, q3.trans q4.wideR⟩
  have hpD : Hid (PoolAt B A.drew b g s) := hp.out.drewN 1
  clear hbx
  go_enter Try.func9, Try.ntmps9
  go_wp2
  go_region_held3 (fun W => W.cell? ⟨w.heap.size, 2, none⟩ = some (.int .i64 n)) (first | assumption | (exact ⟨c2, c2⟩) | exact c2) (first
    | (go_at_call 18; refine (kP _ hpD.out).mono ?_; rintro e W2 ⟨rfl, q1, o1⟩; obtain ⟨bx, rr, of⟩ := key.out W2 o1; have hq := hidden_ (And.intro q1 (And.intro rr (And.intro bx of))); have d2 := bx.c2; simp only at d2; clear q1 rr bx of o1)
    | (go_at_call 29; refine (kR _ hq.out.2.1).mono ?_; rintro e W3 ⟨rfl, r1, o2⟩; obtain ⟨bx2, pp, of2⟩ := key2.out _ W3 hq.out.2.2.1 hq.out.1 hq.out.2.2.2 o2; have hq2 := hidden_ (And.intro pp (And.intro r1 of2)); have d3 := bx2.c2; simp only at d3; clear bx2 pp of2 r1 o2))
  all_goals
    clear kP kR key key2
    go_wp2
    go_ret
    exact ⟨by simp, ⟨hq2.out.1, ⟨_, hq2.out.2.1⟩⟩, hq2.out.2.2⟩

theorem act_sh {B m : Nat} {w : World} {b g b' g' : Nat} {s : Pl} {r : Nat → Nat} (h : PoolAt B w b g s) (h' : RefAt B w b' g' s r) (hG : Good m s) (hm : m ≤ 1000000) (o : OpV) (hk : o.k = 4) :
    Calls Try.prog 9 #[.pointer (some ⟨b, 0, none⟩), .pointer (some ⟨b', 0, none⟩), .agg (boxC o)] w fun e w' => e = .returned (.bool true) ∧ Both B w' b g b' g' (shS s o.n) ∧ Off B T2 w w' := by
  have hB : B ≤ w.heap.size := h.lt
  have hbx := BoxAt.new w o
  have hA := below_new (Below.refl w.heap.size w) (.cells (boxC o) 31)
  have hp := hidden_ (h.below hA)
  have hr := hidden_ (h'.below hA)
  have hof := hidden_ (Off.of_below (B := B) (T := T2) hA)
  unfold boxC at hbx hp hr hof ⊢
  obtain ⟨k, t, n, c, v⟩ := o
  simp only at hk
  subst hk
  obtain ⟨A, eA⟩ : ∃ A, w.alloc (.cells #[.int .i64 4, .string t, .int .i64 n, .int .i64 c, .int .i64 v] 31) = A := ⟨_, rfl⟩
  simp only at hbx hp hr hof ⊢
  rw [eA] at hbx hp hr hof
  have c0 := hbx.c0
  have c1 := hbx.c1
  have c2 := hbx.c2
  have c3 := hbx.c3
  have c4 := hbx.c4
  simp only at c0 c1 c2 c3 c4
  clear h h' hA

  have kP := fun (W : World) (q : PoolAt B W b g s) => share_call q hG hm n
  have kR := fun (W : World) (q : RefAt B W b' g' s r) => refShare_call q hG hm n
  obtain ⟨E, eE⟩ : ∃ E, shE s n = E := ⟨_, rfl⟩
  simp only [eE] at kP kR
  obtain ⟨S, eS⟩ : ∃ S, shS s n = S := ⟨_, rfl⟩
  simp only [eS] at kP kR
  show Calls Try.prog 9 _ w fun e w' => e = .returned (.bool true) ∧ Both B w' b g b' g' (shS s n) ∧ Off B T2 w w'
  rw [eS]
  clear eE eS hG
  have key : Hid (∀ W, Off B TP A.drew W → BoxAt W w.heap.size ⟨4, t, n, c, v⟩ ∧ RefAt B W b' g' s r ∧ Off B T2 w W) := fun W q => by
    have q' : Off B TP A W := ⟨q.os, q.tape, q.output, q.size, q.block⟩
    exact ⟨hbx.off q' rfl, hr.out.off q' rfl rfl rfl, hof.out.trans q'.wideP⟩
  have key2 : Hid (∀ W W' : World, BoxAt W w.heap.size ⟨4, t, n, c, v⟩ → PoolAt B W b g S → Off B T2 w W → Off B TR W W' → BoxAt W' w.heap.size ⟨4, t, n, c, v⟩ ∧ PoolAt B W' b g S ∧ Off B T2 w W') := fun W W' q1 q2 q3 q4 => ⟨q1.off q4 rfl, q2.off q4 rfl rfl, q3.trans q4.wideR⟩
  have hpD : Hid (PoolAt B A.drew b g s) := hp.out.drewN 1
  clear hbx
  go_enter Try.func9, Try.ntmps9
  go_wp2
  go_region_held3 (fun W => W.cell? ⟨w.heap.size, 2, none⟩ = some (.int .i64 n)) (first | assumption | (exact ⟨c2, c2⟩) | exact c2) (first
    | (go_at_call 20; refine (kP _ hpD.out).mono ?_; rintro e W2 ⟨rfl, q1, o1⟩; obtain ⟨bx, rr, of⟩ := key.out W2 o1; have hq := hidden_ (And.intro q1 (And.intro rr (And.intro bx of))); have d2 := bx.c2; simp only at d2; clear q1 rr bx of o1)
    | (go_at_call 31; refine (kR _ hq.out.2.1).mono ?_; rintro e W3 ⟨rfl, r1, o2⟩; obtain ⟨bx2, pp, of2⟩ := key2.out _ W3 hq.out.2.2.1 hq.out.1 hq.out.2.2.2 o2; have hq2 := hidden_ (And.intro pp (And.intro r1 of2)); have d3 := bx2.c2; simp only at d3; clear bx2 pp of2 r1 o2))
  all_goals
    clear kP kR key key2
    go_wp2
    go_ret
    exact ⟨by simp, ⟨hq2.out.1, ⟨_, hq2.out.2.1⟩⟩, hq2.out.2.2⟩

theorem act_dr {B m : Nat} {w : World} {b g b' g' : Nat} {s : Pl} {r : Nat → Nat} (h : PoolAt B w b g s) (h' : RefAt B w b' g' s r) (hG : Good m s) (hm : m ≤ 1000000) (o : OpV) (hk : o.k = 5) :
    Calls Try.prog 9 #[.pointer (some ⟨b, 0, none⟩), .pointer (some ⟨b', 0, none⟩), .agg (boxC o)] w fun e w' => e = .returned (.bool true) ∧ Both B w' b g b' g' (drS s o.n) ∧ Off B T2 w w' := by
  have hB : B ≤ w.heap.size := h.lt
  have hbx := BoxAt.new w o
  have hA := below_new (Below.refl w.heap.size w) (.cells (boxC o) 31)
  have hp := hidden_ (h.below hA)
  have hr := hidden_ (h'.below hA)
  have hof := hidden_ (Off.of_below (B := B) (T := T2) hA)
  unfold boxC at hbx hp hr hof ⊢
  obtain ⟨k, t, n, c, v⟩ := o
  simp only at hk
  subst hk
  obtain ⟨A, eA⟩ : ∃ A, w.alloc (.cells #[.int .i64 5, .string t, .int .i64 n, .int .i64 c, .int .i64 v] 31) = A := ⟨_, rfl⟩
  simp only at hbx hp hr hof ⊢
  rw [eA] at hbx hp hr hof
  have c0 := hbx.c0
  have c1 := hbx.c1
  have c2 := hbx.c2
  have c3 := hbx.c3
  have c4 := hbx.c4
  simp only at c0 c1 c2 c3 c4
  clear h h' hA

  have kP := fun (W : World) (q : PoolAt B W b g s) => drop_call q hG hm n
  have kR := fun (W : World) (q : RefAt B W b' g' s r) => refDrop_call q hG hm n
  obtain ⟨E, eE⟩ : ∃ E, shE s n = E := ⟨_, rfl⟩
  simp only [eE] at kP kR
  obtain ⟨S, eS⟩ : ∃ S, drS s n = S := ⟨_, rfl⟩
  simp only [eS] at kP kR
  show Calls Try.prog 9 _ w fun e w' => e = .returned (.bool true) ∧ Both B w' b g b' g' (drS s n) ∧ Off B T2 w w'
  rw [eS]
  clear eE eS hG
  have key : Hid (∀ W, Off B TP A.drew W → BoxAt W w.heap.size ⟨5, t, n, c, v⟩ ∧ RefAt B W b' g' s r ∧ Off B T2 w W) := fun W q => by
    have q' : Off B TP A W := ⟨q.os, q.tape, q.output, q.size, q.block⟩
    exact ⟨hbx.off q' rfl, hr.out.off q' rfl rfl rfl, hof.out.trans q'.wideP⟩
  have key2 : Hid (∀ W W' : World, BoxAt W w.heap.size ⟨5, t, n, c, v⟩ → PoolAt B W b g S → Off B T2 w W → Off B TR W W' → BoxAt W' w.heap.size ⟨5, t, n, c, v⟩ ∧ PoolAt B W' b g S ∧ Off B T2 w W') := fun W W' q1 q2 q3 q4 => ⟨q1.off q4 rfl, q2.off q4 rfl rfl, q3.trans q4.wideR⟩
  have hpD : Hid (PoolAt B A.drew b g s) := hp.out.drewN 1
  clear hbx
  go_enter Try.func9, Try.ntmps9
  go_wp2
  go_region_held3 (fun W => W.cell? ⟨w.heap.size, 2, none⟩ = some (.int .i64 n)) (first | assumption | (exact ⟨c2, c2⟩) | exact c2) (first
    | (go_at_call 21; refine (kP _ hpD.out).mono ?_; rintro e W2 ⟨rfl, q1, o1⟩; obtain ⟨bx, rr, of⟩ := key.out W2 o1; have hq := hidden_ (And.intro q1 (And.intro rr (And.intro bx of))); have d2 := bx.c2; simp only at d2; clear q1 rr bx of o1)
    | (go_at_call 32; refine (kR _ hq.out.2.1).mono ?_; rintro e W3 ⟨rfl, r1, o2⟩; obtain ⟨bx2, pp, of2⟩ := key2.out _ W3 hq.out.2.2.1 hq.out.1 hq.out.2.2.2 o2; have hq2 := hidden_ (And.intro pp (And.intro r1 of2)); have d3 := bx2.c2; simp only at d3; clear bx2 pp of2 r1 o2))
  all_goals
    clear kP kR key key2
    go_wp2
    go_ret
    exact ⟨by simp, ⟨hq2.out.1, ⟨_, hq2.out.2.1⟩⟩, hq2.out.2.2⟩

end Go.Proofs.Ytjkjfgmbjcjofaa
