/- One act on both pools: the contract of the call. -/
import Derived.Test.YtjkjfgmbjcjofaaRows
import Derived.Test.YtjkjfgmbjcjofaaPages
import Derived.Test.YtjkjfgmbjcjofaaView
import Derived.Test.YtjkjfgmbjcjofaaOwn
import Derived.Test.YtjkjfgmbjcjofaaSame
import Derived.Test.YtjkjfgmbjcjofaaReadsP
import Derived.Test.YtjkjfgmbjcjofaaReadsQ
import Derived.Test.YtjkjfgmbjcjofaaRefPg
import Derived.Test.YtjkjfgmbjcjofaaRefRd
import Derived.Test.YtjkjfgmbjcjofaaLeast
import Derived.Test.YtjkjfgmbjcjofaaLays
import Derived.Test.YtjkjfgmbjcjofaaTurns
import Derived.Test.YtjkjfgmbjcjofaaRefTk
import Derived.Test.YtjkjfgmbjcjofaaRefLays
import Derived.Test.YtjkjfgmbjcjofaaRefTurns
import Derived.Test.YtjkjfgmbjcjofaaGoods
import Derived.Test.YtjkjfgmbjcjofaaOpenOps
import Derived.Test.YtjkjfgmbjcjofaaAct
import Derived.WalkKit
import Derived.ProofKit
import Derived.OpenShut
import Derived.Below
import Derived.WalkLawsBesides
import Derived.Deep.QuietTactic
import Derived.BigQuiet
import Derived.Deep.RegionWith
import Derived.Deep.RegionHeld3
namespace Go.Proofs.Ytjkjfgmbjcjofaa
open Go.ChangeShapes Go.WideShapes Go.ChangeAt Go.RowKit
set_option linter.unusedVariables false

theorem act_put {B m : Nat} {w : World} {b g b' g' : Nat} {s : Pl} {r : Nat → Nat} (h : PoolAt B w b g s) (h' : RefAt B w b' g' s r) (hG : Good m s) (hm : m ≤ 1000000) (o : OpV) (hk : o.k = 6) :
    Calls Try.prog 9 #[.pointer (some ⟨b, 0, none⟩), .pointer (some ⟨b', 0, none⟩), .agg (boxC o)] w fun e w' => e = .returned (.bool true) ∧ Both B w' b g b' g' (putS s o.n o.c o.v) ∧ Off B T2 w w' := by
  have hB : B ≤ w.heap.size := h.lt
  have hbx := BoxAt.new w o
  have hA := below_new (Below.refl w.heap.size w) (.cells (boxC o) 31)
  have hp := hidden_ (h.below hA)
  have hr := hidden_ (h'.below hA)
  have hof := hidden_ (Off.of_below (B := B) (T := T2) hA)
  unfold boxC at hbx hp hr hof ⊢
  obtain ⟨k, t, n, c, v⟩ := o
  simp only at hk
  subst hk
  obtain ⟨A, eA⟩ : ∃ A, w.alloc (.cells #[.int .i64 6, .string t, .int .i64 n, .int .i64 c, .int .i64 v] 31) = A := ⟨_, rfl⟩
  simp only at hbx hp hr hof ⊢
  rw [eA] at hbx hp hr hof
  have c0 := hbx.c0
  have c1 := hbx.c1
  have c2 := hbx.c2
  have c3 := hbx.c3
  have c4 := hbx.c4
  simp only at c0 c1 c2 c3 c4
  clear h h' hA

  have kP := fun (W : World) (q : PoolAt B W b g s) => put_call q hG n c v
  have kR := fun (W : World) (q : RefAt B W b' g' s r) => refPut_call q hG n c v
  obtain ⟨E, eE⟩ : ∃ E, getE s n c = E := ⟨_, rfl⟩
  simp only [eE] at kP kR
  obtain ⟨S, eS⟩ : ∃ S, putS s n c v = S := ⟨_, rfl⟩
  simp only [eS] at kP kR
  show Calls Try.prog 9 _ w fun e w' => e = .returned (.bool true) ∧ Both B w' b g b' g' (putS s n c v) ∧ Off B T2 w w'
  rw [eS]
  clear eE eS hG
  have key : Hid (∀ W, Off B TP A.drew W → BoxAt W w.heap.size ⟨6, t, n, c, v⟩ ∧ RefAt B W b' g' s r ∧ Off B T2 w W) := fun W q => by
    have q' : Off B TP A W := ⟨q.os, q.tape, q.output, q.size, q.block⟩
    exact ⟨hbx.off q' rfl, hr.out.off q' rfl rfl rfl, hof.out.trans q'.wideP⟩
  have key2 : Hid (∀ W W' : World, BoxAt W w.heap.size ⟨6, t, n, c, v⟩ → PoolAt B W b g S → Off B T2 w W → Off B TR W W' → BoxAt W' w.heap.size ⟨6, t, n, c, v⟩ ∧ PoolAt B W' b g S ∧ Off B T2 w W') := fun W W' q1 q2 q3 q4 => ⟨q1.off q4 rfl, q2.off q4 rfl rfl, q3.trans q4.wideR⟩
  have hpD : Hid (PoolAt B A.drew b g s) := hp.out.drewN 1
  clear hbx
  go_enter Try.func9, Try.ntmps9
  go_wp2
  go_region_held3 (fun W => W.cell? ⟨w.heap.size, 2, none⟩ = some (.int .i64 n) ∧ W.cell? ⟨w.heap.size, 3, none⟩ = some (.int .i64 c) ∧ W.cell? ⟨w.heap.size, 4, none⟩ = some (.int .i64 v)) (first | assumption | (exact ⟨c2, c3, c4⟩) | exact d2) (first
    | (go_at_call 25; refine (kP _ hpD.out).mono ?_; rintro e W2 ⟨rfl, q1, o1⟩; obtain ⟨bx, rr, of⟩ := key.out W2 o1; have hq := hidden_ (And.intro q1 (And.intro rr (And.intro bx of))); have d2 := And.intro bx.c2 (And.intro bx.c3 bx.c4); simp only at d2; clear q1 rr bx of o1)
    | (go_at_call 33; refine (kR _ hq.out.2.1).mono ?_; rintro e W3 ⟨rfl, r1, o2⟩; obtain ⟨bx2, pp, of2⟩ := key2.out _ W3 hq.out.2.2.1 hq.out.1 hq.out.2.2.2 o2; have hq2 := hidden_ (And.intro pp (And.intro r1 of2)); have d3 := And.intro bx2.c2 (And.intro bx2.c3 bx2.c4); simp only at d3; clear bx2 pp of2 r1 o2))
  all_goals
    clear kP kR key key2
    go_wp2
    go_ret
    exact ⟨by simp, ⟨hq2.out.1, ⟨_, hq2.out.2.1⟩⟩, hq2.out.2.2⟩

theorem act_take {B m : Nat} {w : World} {b g b' g' : Nat} {s : Pl} {r : Nat → Nat} (h : PoolAt B w b g s) (h' : RefAt B w b' g' s r) (hG : Good m s) (hm : m ≤ 1000000) (o : OpV) (hk : o.k = 0) :
    Calls Try.prog 9 #[.pointer (some ⟨b, 0, none⟩), .pointer (some ⟨b', 0, none⟩), .agg (boxC o)] w fun e w' => e = .returned (.bool true) ∧ Both B w' b g b' g' (takeS s o.t o.n) ∧ Off B T2 w w' := by
  have hB : B ≤ w.heap.size := h.lt
  have hbx := BoxAt.new w o
  have hA := below_new (Below.refl w.heap.size w) (.cells (boxC o) 31)
  have hp := hidden_ (h.below hA)
  have hr := hidden_ (h'.below hA)
  have hof := hidden_ (Off.of_below (B := B) (T := T2) hA)
  unfold boxC at hbx hp hr hof ⊢
  obtain ⟨k, t, n, c, v⟩ := o
  simp only at hk
  subst hk
  obtain ⟨A, eA⟩ : ∃ A, w.alloc (.cells #[.int .i64 0, .string t, .int .i64 n, .int .i64 c, .int .i64 v] 31) = A := ⟨_, rfl⟩
  simp only at hbx hp hr hof ⊢
  rw [eA] at hbx hp hr hof
  have c0 := hbx.c0
  have c1 := hbx.c1
  have c2 := hbx.c2
  have c3 := hbx.c3
  have c4 := hbx.c4
  simp only at c0 c1 c2 c3 c4
  clear h h' hA

  have kP := fun (W : World) (q : PoolAt B W b g s) => take_call q hG t n
  have kR := fun (W : World) (q : RefAt B W b' g' s r) (hl : B ≤ W.heap.size) => refTakes_call q hl hG t n
  obtain ⟨E, eE⟩ : ∃ E, takeE s t n = E := ⟨_, rfl⟩
  simp only [eE] at kP kR
  obtain ⟨S, eS⟩ : ∃ S, takeS s t n = S := ⟨_, rfl⟩
  simp only [eS] at kP kR
  show Calls Try.prog 9 _ w fun e w' => e = .returned (.bool true) ∧ Both B w' b g b' g' (takeS s t n) ∧ Off B T2 w w'
  rw [eS]
  obtain ⟨R, eR⟩ : ∃ R, takeR s t n = R := ⟨_, rfl⟩
  simp only [eR] at kP kR
  clear eE eS eR hG
  have key : Hid (∀ W, Off B TP A W → BoxAt W w.heap.size ⟨0, t, n, c, v⟩ ∧ RefAt B W b' g' s r ∧ Off B T2 w W) := fun W q' =>
    ⟨hbx.off q' rfl, hr.out.off q' rfl rfl rfl, hof.out.trans q'.wideP⟩
  have hbs := hB
  clear hbx
  go_enter Try.func9, Try.ntmps9
  go_wp2_with (first
    | (go_at_call 16; refine (kP _ hp.out).mono ?_; rintro e W2 ⟨a1, l1, p1, rfl, y1, q1, o1⟩; obtain ⟨bx, rr, of⟩ := key.out W2 o1; have hq := hidden_ (And.intro q1 (And.intro rr (And.intro y1 of))); clear c0 c1 c2 c3 c4; have c1 := bx.c1; have c2 := bx.c2; simp only at c1 c2; clear q1 rr bx of o1 y1)
    | (go_at_call 26; refine (kR _ hq.out.2.1 (Nat.le_trans hbs hq.out.2.2.2.size)).mono ?_; rintro e W3 ⟨a2, l2, p2, rfl, y2, r1, o2⟩; have hq2 := hidden_ (And.intro (hq.out.1.off o2 rfl rfl) (And.intro r1 (And.intro (hq.out.2.2.1.off o2 rfl) (And.intro y2 (hq.out.2.2.2.trans o2.wideR))))); clear r1 o2 y2)
    | (go_at_call 27; refine (same_ints a1 l1 p1 R a2 l2 p2 _ hq2.out.2.2.1.reads hq2.out.2.2.2.1.reads).mono ?_; rintro e W4 ⟨rfl, m4, h4⟩; have hf := hidden_ h4; clear h4))
  go_ret
  exact ⟨by simp, ⟨by rw [hf.out]; exact hq2.out.1.drewN _, by obtain ⟨r2, hr2⟩ := hq2.out.2.1; rw [hf.out]; exact ⟨r2, hr2.drewN _⟩⟩, by rw [hf.out]; exact hq2.out.2.2.2.2.drewN _⟩

theorem act_draw {B m : Nat} {w : World} {b g b' g' : Nat} {s : Pl} {r : Nat → Nat} (h : PoolAt B w b g s) (h' : RefAt B w b' g' s r) (hG : Good m s) (hm : m ≤ 1000000) (o : OpV) (hk : o.k = 3) :
    Calls Try.prog 9 #[.pointer (some ⟨b, 0, none⟩), .pointer (some ⟨b', 0, none⟩), .agg (boxC o)] w fun e w' => e = .returned (.bool true) ∧ Both B w' b g b' g' (drawS s o.t o.n) ∧ Off B T2 w w' := by
  have hB : B ≤ w.heap.size := h.lt
  have hbx := BoxAt.new w o
  have hA := below_new (Below.refl w.heap.size w) (.cells (boxC o) 31)
  have hp := hidden_ (h.below hA)
  have hr := hidden_ (h'.below hA)
  have hof := hidden_ (Off.of_below (B := B) (T := T2) hA)
  unfold boxC at hbx hp hr hof ⊢
  obtain ⟨k, t, n, c, v⟩ := o
  simp only at hk
  subst hk
  obtain ⟨A, eA⟩ : ∃ A, w.alloc (.cells #[.int .i64 3, .string t, .int .i64 n, .int .i64 c, .int .i64 v] 31) = A := ⟨_, rfl⟩
  simp only at hbx hp hr hof ⊢
  rw [eA] at hbx hp hr hof
  have c0 := hbx.c0
  have c1 := hbx.c1
  have c2 := hbx.c2
  have c3 := hbx.c3
  have c4 := hbx.c4
  simp only at c0 c1 c2 c3 c4
  clear h h' hA

  have kP := fun (W : World) (q : PoolAt B W b g s) => draw_call q hG t n
  have kR := fun (W : World) (q : RefAt B W b' g' s r) (hl : B ≤ W.heap.size) => refDraw_call q hl hG t n
  obtain ⟨E, eE⟩ : ∃ E, drawE s t n = E := ⟨_, rfl⟩
  simp only [eE] at kP kR
  obtain ⟨S, eS⟩ : ∃ S, drawS s t n = S := ⟨_, rfl⟩
  simp only [eS] at kP kR
  show Calls Try.prog 9 _ w fun e w' => e = .returned (.bool true) ∧ Both B w' b g b' g' (drawS s t n) ∧ Off B T2 w w'
  rw [eS]
  obtain ⟨R, eR⟩ : ∃ R, drawR s t n = R := ⟨_, rfl⟩
  simp only [eR] at kP kR
  clear eE eS eR hG
  have key : Hid (∀ W, Off B TP A W → BoxAt W w.heap.size ⟨3, t, n, c, v⟩ ∧ RefAt B W b' g' s r ∧ Off B T2 w W) := fun W q' =>
    ⟨hbx.off q' rfl, hr.out.off q' rfl rfl rfl, hof.out.trans q'.wideP⟩
  have hbs := hB
  clear hbx
  go_enter Try.func9, Try.ntmps9
  go_wp2_with (first
    | (go_at_call 19; refine (kP _ hp.out).mono ?_; rintro e W2 ⟨a1, l1, p1, rfl, y1, q1, o1⟩; obtain ⟨bx, rr, of⟩ := key.out W2 o1; have hq := hidden_ (And.intro q1 (And.intro rr (And.intro y1 of))); clear c0 c1 c2 c3 c4; have c1 := bx.c1; have c2 := bx.c2; simp only at c1 c2; clear q1 rr bx of o1 y1)
    | (go_at_call 30; refine (kR _ hq.out.2.1 (Nat.le_trans hbs hq.out.2.2.2.size)).mono ?_; rintro e W3 ⟨a2, l2, p2, rfl, y2, r1, o2⟩; have hq2 := hidden_ (And.intro (hq.out.1.off o2 rfl rfl) (And.intro r1 (And.intro (hq.out.2.2.1.off o2 rfl) (And.intro y2 (hq.out.2.2.2.trans o2.wideR))))); clear r1 o2 y2)
    | (go_at_call 27; refine (same_ints a1 l1 p1 R a2 l2 p2 _ hq2.out.2.2.1.reads hq2.out.2.2.2.1.reads).mono ?_; rintro e W4 ⟨rfl, m4, h4⟩; have hf := hidden_ h4; clear h4))
  go_ret
  exact ⟨by simp, ⟨by rw [hf.out]; exact hq2.out.1.drewN _, by obtain ⟨r2, hr2⟩ := hq2.out.2.1; rw [hf.out]; exact ⟨r2, hr2.drewN _⟩⟩, by rw [hf.out]; exact hq2.out.2.2.2.2.drewN _⟩

theorem act_none {B m : Nat} {w : World} {b g b' g' : Nat} {s : Pl} {r : Nat → Nat} (h : PoolAt B w b g s) (h' : RefAt B w b' g' s r) (hG : Good m s) (hm : m ≤ 1000000) (o : OpV) (n0 : o.k ≠ 0) (n1 : o.k ≠ 1) (n2 : o.k ≠ 2) (n3 : o.k ≠ 3) (n4 : o.k ≠ 4) (n5 : o.k ≠ 5) (n6 : o.k ≠ 6) :
    Calls Try.prog 9 #[.pointer (some ⟨b, 0, none⟩), .pointer (some ⟨b', 0, none⟩), .agg (boxC o)] w fun e w' => e = .returned (.bool true) ∧ Both B w' b g b' g' s ∧ Off B T2 w w' := by
  have hbx := BoxAt.new w o
  have hA := below_new (Below.refl w.heap.size w) (.cells (boxC o) 31)
  have hp := hidden_ (And.intro (h.below hA) (h'.below hA))
  have hof := hidden_ (Off.of_below (B := B) (T := T2) hA)
  unfold boxC at hbx hp hof ⊢
  obtain ⟨k, t, n, c, v⟩ := o
  simp only at n0 n1 n2 n3 n4 n5 n6
  have e0 : (k == 0) = false := by simp [n0]
  have e1 : (k == 1) = false := by simp [n1]
  have e2 : (k == 2) = false := by simp [n2]
  have e3 : (k == 3) = false := by simp [n3]
  have e4 : (k == 4) = false := by simp [n4]
  have e5 : (k == 5) = false := by simp [n5]
  have e6 : (k == 6) = false := by simp [n6]
  simp only at hbx hp hof ⊢
  have c0 := hbx.c0
  simp only at c0
  clear h h' hA hbx hG n0 n1 n2 n3 n4 n5 n6
  go_enter Try.func9, Try.ntmps9
  go_wp2
  go_ret
  exact ⟨rfl, ⟨hp.out.1, ⟨_, hp.out.2⟩⟩, hof.out⟩

theorem act_call {B m : Nat} {w : World} {b g b' g' : Nat} {s : Pl} {r : Nat → Nat} (h : PoolAt B w b g s) (h' : RefAt B w b' g' s r) (hG : Good m s) (hm : m ≤ 1000000) (o : OpV) :
    Calls Try.prog 9 #[.pointer (some ⟨b, 0, none⟩), .pointer (some ⟨b', 0, none⟩), .agg (boxC o)] w fun e w' => e = .returned (.bool true) ∧ Both B w' b g b' g' (actS s o) ∧ Off B T2 w w' := by
  unfold actS
  split
  · exact act_take h h' hG hm o (by assumption)
  · split
    · exact act_res h h' hG hm o (by assumption)
    · split
      · exact act_un h h' hG hm o (by assumption)
      · split
        · exact act_draw h h' hG hm o (by assumption)
        · split
          · exact act_sh h h' hG hm o (by assumption)
          · split
            · exact act_dr h h' hG hm o (by assumption)
            · split
              · exact act_put h h' hG hm o (by assumption)
              · exact act_none h h' hG hm o (by assumption) (by assumption) (by assumption) (by assumption) (by assumption) (by assumption) (by assumption)

end Go.Proofs.Ytjkjfgmbjcjofaa
