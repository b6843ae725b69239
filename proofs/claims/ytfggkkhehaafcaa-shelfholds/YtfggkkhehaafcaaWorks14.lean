/- The shelf's own example comes out as the chapter says. -/
import Derived.Test.YtfggkkhehaafcaaRows
import Derived.Test.YtfggkkhehaafcaaPages
import Derived.Test.YtfggkkhehaafcaaView
import Derived.Test.YtfggkkhehaafcaaOwn
import Derived.Test.YtfggkkhehaafcaaReadsP
import Derived.Test.YtfggkkhehaafcaaReadsQ
import Derived.Test.YtfggkkhehaafcaaLeast
import Derived.Test.YtfggkkhehaafcaaLays
import Derived.Test.YtfggkkhehaafcaaNews
import Derived.Test.YtfggkkhehaafcaaGoods
import Derived.Test.YtfggkkhehaafcaaPlain
import Derived.Test.YtfggkkhehaafcaaLies
import Derived.Test.YtfggkkhehaafcaaCopies
import Derived.Test.YtfggkkhehaafcaaNeeds
import Derived.Test.YtfggkkhehaafcaaFetch
import Derived.Test.YtfggkkhehaafcaaRelease
import Derived.Test.YtfggkkhehaafcaaRefRel
import Derived.Test.YtfggkkhehaafcaaMapV
import Derived.Test.YtfggkkhehaafcaaShPlain
import Derived.Test.YtfggkkhehaafcaaShActs
import Derived.Test.YtfggkkhehaafcaaShAt
import Derived.Test.YtfggkkhehaafcaaShTurn
import Derived.Test.YtfggkkhehaafcaaShIn
import Derived.Test.YtfggkkhehaafcaaWorksK
import Derived.WalkKit
import Derived.ProofKit
import Derived.OpenShut
import Derived.Below
import Derived.WalkLawsBesides
import Derived.Deep.QuietTactic
import Derived.BigQuiet
import Derived.Maps.OwnSet
import Derived.OwnWalk
import Derived.Deep.RegionWith
namespace Go.Proofs.Ytfggkkhehaafcaa
open Go.ChangeShapes Go.WideShapes Go.ChangeAt Go.RowKit
set_option linter.unusedVariables false
set_option linter.unusedSimpArgs false

set_option maxRecDepth 20000 in
set_option maxHeartbeats 4000000 in
theorem works_call (w : World) : Calls Try.prog 22 #[] w fun e w' => e = .returned (.bool true) ∧ Below w.heap.size w w' := by
  have k7 := (show Calls Try.prog 7 #[.int .i64 2] w _ from new_call 2 (by decide) (by decide) w)
  have hmk := made40
  have hs := w_small
  obtain ⟨hsA, hsB, hsC⟩ := hs
  -- what each call does, in whatever world
  have K9 : Hid (∀ W b g, PoolAt w.heap.size W b g (newPl 2) → _) := hidden_ (fun W b g q => sf_new (B := w.heap.size) (w := W) (b := b) (g := g) q (by decide) (by decide))
  have KP1 : Hid (∀ W x mb b g y, Sf w.heap.size W x mb b g none (newPl 2) [] 0 → Reads .i8 W (some y) 40 W5 → Calls Try.prog 23 #[.pointer (some ⟨x, 0, none⟩), .string ⟨#[97]⟩, .slice (some y) 40 40] W fun e w' => e = .returned (.int .i64 0) ∧ Sf w.heap.size w' x mb b g none (newPl 2) wL1 1 ∧ OffS w.heap.size TS (SS mb none) W w') := hidden_ (fun W x mb b g y q r => by
    have := sf_put q (by decide) tA hsA (some y) 40 40 W5 r (fun e => by cases e) (by decide)
    rw [w_put1] at this
    exact this)
  have KP2 : Hid (∀ W x mb b g y, Sf w.heap.size W x mb b g none (newPl 2) wL1 1 → Reads .i8 W (some y) 40 W0 → Calls Try.prog 23 #[.pointer (some ⟨x, 0, none⟩), .string ⟨#[98]⟩, .slice (some y) 40 40] W fun e w' => e = .returned (.int .i64 0) ∧ Sf w.heap.size w' x mb b g none (newPl 2) wL2 2 ∧ OffS w.heap.size TS (SS mb none) W w') := hidden_ (fun W x mb b g y q r => by
    have := sf_put q (by decide) tB hsB (some y) 40 40 W0 r (fun e => by cases e) (by decide)
    rw [w_put2] at this
    exact this)
  have KN1 : Hid (∀ W x mb b g a, Sf w.heap.size W x mb b g a (newPl 2) wL2 2 → Calls Try.prog 24 #[.pointer (some ⟨x, 0, none⟩), .string ⟨#[97]⟩] W fun e w' => e = .returned (.int .i64 0) ∧ (∃ a', Sf w.heap.size w' x mb b g a' wQ3.1 wQ3.2 3) ∧ OffS w.heap.size TS (SS mb a) W w') := hidden_ (fun W x mb b g a q => by
    have := sf_pin q (by decide) tA hsA
    rw [w_pin1] at this
    refine this.mono ?_
    rintro e w' ⟨rfl, ⟨a', r1, _⟩, r2⟩
    exact ⟨rfl, ⟨a', r1⟩, r2⟩)
  have KN2 : Hid (∀ W x mb b g a, Sf w.heap.size W x mb b g a wQ3.1 wQ3.2 3 → Calls Try.prog 24 #[.pointer (some ⟨x, 0, none⟩), .string ⟨#[98]⟩] W fun e w' => e = .returned (.int .i64 6) ∧ (∃ a', Sf w.heap.size w' x mb b g a' wQ3.1 wQ3.2 4) ∧ OffS w.heap.size TS (SS mb a) W w') := hidden_ (fun W x mb b g a q => by
    have := sf_pin q (by decide) tB hsB
    rw [w_pin2] at this
    rw [pinP_no (by rw [w_pin2]; decide)] at this
    refine this.mono ?_
    rintro e w' ⟨rfl, ⟨a', r1, _⟩, r2⟩
    exact ⟨rfl, ⟨a', r1⟩, r2⟩)
  have KR1 : Hid (∀ W x mb b g a, Sf w.heap.size W x mb b g a wQ3.1 wQ3.2 4 → Calls Try.prog 11 #[.pointer (some ⟨x, 0, none⟩), .string ⟨#[97]⟩] W fun e w' => ∃ a' l' c', e = .returned (.tuple #[.slice a' l' c', .int .i64 0]) ∧ RowB W.heap.size w' a' l' c' W5 ∧ Below W.heap.size W w') := hidden_ (fun W x mb b g a q => by
    have := sf_read q (by decide) tA hsA
    rw [w_read1, w_read2] at this
    exact this)
  have KU : Hid (∀ W x mb b g a, Sf w.heap.size W x mb b g a wQ3.1 wQ3.2 4 → Calls Try.prog 25 #[.pointer (some ⟨x, 0, none⟩), .string ⟨#[97]⟩] W fun e w' => e = .returned (.int .i64 0) ∧ Sf w.heap.size w' x mb b g a wQ3.1 wL4 4 ∧ OffS w.heap.size TS (SS mb a) W w') := hidden_ (fun W x mb b g a q => by
    have := sf_unpin q (by decide) tA hsA
    rw [w_unpin] at this
    exact this)
  have KN3 : Hid (∀ W x mb b g a, Sf w.heap.size W x mb b g a wQ3.1 wL4 4 → Calls Try.prog 24 #[.pointer (some ⟨x, 0, none⟩), .string ⟨#[98]⟩] W fun e w' => e = .returned (.int .i64 0) ∧ (∃ a', Sf w.heap.size w' x mb b g a' wQ5.1 wQ5.2 5) ∧ OffS w.heap.size TS (SS mb a) W w') := hidden_ (fun W x mb b g a q => by
    have := sf_pin q (by decide) tB hsB
    rw [w_pin3] at this
    refine this.mono ?_
    rintro e w' ⟨rfl, ⟨a', r1, _⟩, r2⟩
    exact ⟨rfl, ⟨a', r1⟩, r2⟩)
  have KR2 : Hid (∀ W x mb b g a, Sf w.heap.size W x mb b g a wQ5.1 wQ5.2 5 → Calls Try.prog 11 #[.pointer (some ⟨x, 0, none⟩), .string ⟨#[97]⟩] W fun e w' => ∃ a' l' c', e = .returned (.tuple #[.slice a' l' c', .int .i64 27]) ∧ Below W.heap.size W w') := hidden_ (fun W x mb b g a q => by
    have := sf_read q (by decide) tA hsA
    rw [w_read3] at this
    refine this.mono ?_
    rintro e w' ⟨a', l', c', rfl, _, r⟩
    exact ⟨a', l', c', rfl, r⟩)
  have KS : Hid (∀ W x mb b g a, Sf w.heap.size W x mb b g a wQ5.1 wQ5.2 5 → Calls Try.prog 17 #[.pointer (some ⟨x, 0, none⟩)] W fun e w' => (∃ a' l' c', e = .returned (.slice a' l' c') ∧ RowT W.heap.size w' a' l' c' [tB]) ∧ Below W.heap.size W w') := hidden_ (fun W x mb b g a q => by
    have := sf_resident q (by decide)
    rw [w_names] at this
    exact this)
  have KI1 : Hid (∀ W x mb b g a, Sf w.heap.size W x mb b g a wQ5.1 wQ5.2 5 → Calls Try.prog 14 #[.pointer (some ⟨x, 0, none⟩), .string ⟨#[98]⟩] W fun e w' => e = .returned (.int .i64 1) ∧ w' = W) := hidden_ (fun W x mb b g a q => by
    have := sf_pins q tB hsB
    rw [w_pins1] at this
    exact this)
  have KI2 : Hid (∀ W x mb b g a, Sf w.heap.size W x mb b g a wQ5.1 wQ5.2 5 → Calls Try.prog 14 #[.pointer (some ⟨x, 0, none⟩), .string ⟨#[99]⟩] W fun e w' => e = .returned (.int .i64 (-1)) ∧ w' = W) := hidden_ (fun W x mb b g a q => by
    have := sf_pins q tC hsC
    rw [w_pins2] at this
    exact this)
  clear hsA hsB hsC
  go_enter Try.func22, Try.ntmps22
  go_wp2_with (first
    | (go_at_call 7; refine k7.mono ?_; rintro e W1 ⟨rfl, hp', hb1⟩; have k9 := K9.out W1 _ _ (hp' _ (Nat.le_refl _)); have HB1 := hidden_ hb1; clear k7 hp' hb1)
    | (go_at_call 9; refine k9.mono ?_; rintro e W2 ⟨rfl, s2, hb2⟩; obtain ⟨x, ex⟩ : ∃ x, W1.heap.size + 1 = x := ⟨_, rfl⟩; rw [ex] at s2; have c3 := z40_at W2 3 (by decide); have fz : (W2.alloc z40).frozen? ⟨W2.heap.size, 3, none⟩ = false := (z40_row W2).open_ 3; have HB2 := hidden_ (below_then HB1.out hb2); have S2 := hidden_ s2; clear s2 k9 hb2 HB1 K9))
  have hbV : Below W2.heap.size W2 ((W2.alloc z40).setCell ⟨W2.heap.size, 3, none⟩ (.int .i8 5)) := (below_new (Below.refl _ W2) z40).setCell (Nat.le_refl _) _
  have rV := w5_reads W2
  have tV := w5_row W2
  obtain ⟨V, eV⟩ : ∃ V, (W2.alloc z40).setCell ⟨W2.heap.size, 3, none⟩ (.int .i8 5) = V := ⟨_, rfl⟩
  rw [eV] at hbV rV tV ⊢
  have sV := S2.out.below hbV
  have bV := below_then HB2.out hbV
  obtain ⟨y, ey⟩ : ∃ y : Nat, W2.heap.size = y := ⟨_, rfl⟩
  rw [ey] at rV tV ⊢
  -- the two orders: the second row is made ahead of the first Put, or behind it
  have ka1 := KP1.out V.drew _ _ _ _ _ (sV.drewN 1) (rV.drewN 1)
  have hbM : Below V.heap.size V (V.alloc z40) := below_new (Below.refl _ _) z40
  have ka2 := KP1.out (V.alloc z40).drew _ _ _ _ _ ((sV.below hbM).drewN 1) ((rV.below hbM).drewN 1)
  have after1 : Hid (∀ W3, Sf w.heap.size W3 x W1.heap.size (w.heap.size + 1) w.heap.size none (newPl 2) wL1 1 → OffS w.heap.size TS (SS W1.heap.size none) V.drew W3 → Sf w.heap.size (W3.alloc z40) x W1.heap.size (w.heap.size + 1) w.heap.size none (newPl 2) wL1 1 ∧ Reads .i8 (W3.alloc z40) (some ⟨y, 0, none⟩) 40 W5 ∧ Row 59 (W3.alloc z40) y 40 ∧ Below w.heap.size w (W3.alloc z40) ∧ Calls Try.prog 23 #[.pointer (some ⟨x, 0, none⟩), .string ⟨#[98]⟩, .slice (some ⟨W3.heap.size, 0, none⟩) 40 40] (W3.alloc z40) fun e w' => e = .returned (.int .i64 0) ∧ Sf w.heap.size w' x W1.heap.size (w.heap.size + 1) w.heap.size none (newPl 2) wL2 2 ∧ OffS w.heap.size TS (SS W1.heap.size none) (W3.alloc z40) w') := hidden_ (fun W3 s3 o3 => by
    have hb3 : Below W3.heap.size W3 (W3.alloc z40) := below_new (Below.refl _ _) z40
    obtain ⟨q1, q2⟩ := o3.reads8 (sV.drewN 1) (rV.drewN 1) (x := ⟨y, 0, none⟩) tV
    exact ⟨s3.below hb3, q1.below hb3, q2.of_block (hb3.block _ q2.lt), ((below_drew bV ⟨1, rfl⟩ : Below w.heap.size w V.drew).trans (o3.below bV.size)).trans (hb3.mono (Nat.le_trans bV.size o3.size)), KP2.out _ _ _ _ _ _ (s3.below hb3) (w0_reads W3)⟩)
  have after2 : Hid (∀ W3, Sf w.heap.size W3 x W1.heap.size (w.heap.size + 1) w.heap.size none (newPl 2) wL1 1 → OffS w.heap.size TS (SS W1.heap.size none) (V.alloc z40).drew W3 → Sf w.heap.size W3 x W1.heap.size (w.heap.size + 1) w.heap.size none (newPl 2) wL1 1 ∧ Reads .i8 W3 (some ⟨y, 0, none⟩) 40 W5 ∧ Row 59 W3 y 40 ∧ Below w.heap.size w W3 ∧ Calls Try.prog 23 #[.pointer (some ⟨x, 0, none⟩), .string ⟨#[98]⟩, .slice (some ⟨V.heap.size, 0, none⟩) 40 40] W3 fun e w' => e = .returned (.int .i64 0) ∧ Sf w.heap.size w' x W1.heap.size (w.heap.size + 1) w.heap.size none (newPl 2) wL2 2 ∧ OffS w.heap.size TS (SS W1.heap.size none) W3 w') := hidden_ (fun W3 s3 o3 => by
    have sM := (sV.below hbM).drewN 1
    obtain ⟨q1, q2⟩ := o3.reads8 sM ((rV.below hbM).drewN 1) (x := ⟨y, 0, none⟩) (show Row 59 (V.alloc z40) y 40 from tV.of_block (hbM.block _ tV.lt))
    obtain ⟨q3, _⟩ := o3.reads8 sM ((w0_reads V).drewN 1) (x := ⟨V.heap.size, 0, none⟩) (z40_row V)
    have bM : Below w.heap.size w (V.alloc z40).drew := below_drew (below_then bV hbM) ⟨1, rfl⟩
    exact ⟨s3, q1, q2, bM.trans (o3.below bM.size), KP2.out _ _ _ _ _ _ s3 q3⟩)
  clear eV ey hbV S2 HB2 c3 fz
  have HV := hidden_ (And.intro sV (And.intro rV (And.intro tV bV)))
  clear sV rV tV bV hbM
  go_region_with (first
    | (with_reducible (go_at_call 23; refine ka1.mono ?_); rintro e W3 ⟨rfl, s3, o3⟩; obtain ⟨q0, q1, q2, q3, kb⟩ := after1.out W3 s3 o3; clear ka1 ka2 after1 after2 s3 o3; have HQ := hidden_ (And.intro q0 (And.intro q1 (And.intro q2 q3))); clear q0 q1 q2 q3)
    | (with_reducible (go_at_call 23; refine ka2.mono ?_); rintro e W3 ⟨rfl, s3, o3⟩; obtain ⟨q0, q1, q2, q3, kb⟩ := after2.out W3 s3 o3; clear ka1 ka2 after1 after2 s3 o3; have HQ := hidden_ (And.intro q0 (And.intro q1 (And.intro q2 q3))); clear q0 q1 q2 q3)
    | (go_at_call 23; refine kb.mono ?_; rintro e W4 ⟨rfl, s4, o4⟩; clear kb))
  all_goals
    have b4 := HQ.out.2.2.2.trans (o4.below HQ.out.2.2.2.size)
    obtain ⟨r4, t4⟩ := o4.reads8 HQ.out.1 HQ.out.2.1 HQ.out.2.2.1
    have kN1 := KN1.out W4 _ _ _ _ _ s4
    have H4 := hidden_ (And.intro s4 (And.intro r4 (And.intro t4 b4)))
    clear HQ HV o4 s4 r4 t4 b4 KP1 KP2 KN1
    go_wp2_with (first
      | (go_at_call 24; refine kN1.mono ?_; rintro e W5' ⟨rfl, ⟨a5, s5⟩, o5⟩; obtain ⟨r5, t5⟩ := o5.reads8 H4.out.1 H4.out.2.1 H4.out.2.2.1; have b5 := H4.out.2.2.2.trans (o5.below H4.out.2.2.2.size); have kN2 := KN2.out W5' _ _ _ _ _ s5; have H5 := hidden_ (And.intro s5 (And.intro r5 (And.intro t5 b5))); clear kN1 s5 r5 t5 b5 o5 H4 KN2)
      | (go_at_call 24; refine kN2.mono ?_; rintro e W6 ⟨rfl, ⟨a6, s6⟩, o6⟩; obtain ⟨r6, t6⟩ := o6.reads8 H5.out.1 H5.out.2.1 H5.out.2.2.1; have b6 := H5.out.2.2.2.trans (o6.below H5.out.2.2.2.size); have kR1 := KR1.out W6 _ _ _ _ _ s6; have H6 := hidden_ (And.intro s6 (And.intro r6 (And.intro t6 b6))); clear kN2 s6 r6 t6 b6 o6 H5 KR1)
      | (go_at_call 11; refine kR1.mono ?_; rintro e W7 ⟨ax, lx, cx, rfl, rx, b7'⟩; have s7 := H6.out.1.below b7'; have r7 := H6.out.2.1.below b7'; have t7 := H6.out.2.2.1.of_block (b7'.block _ H6.out.2.2.1.lt); have b7 := H6.out.2.2.2.trans (b7'.mono H6.out.2.2.2.size); have kU := KU.out W7 _ _ _ _ _ s7; have H7 := hidden_ (And.intro s7 (And.intro r7 (And.intro t7 (And.intro b7 rx)))); clear kR1 s7 r7 t7 b7 rx b7' H6 KU)
      | (go_at_call 25; refine kU.mono ?_; rintro e W8 ⟨rfl, s8, o8⟩; obtain ⟨r8, t8⟩ := o8.reads8 H7.out.1 H7.out.2.1 H7.out.2.2.1; have b8 := H7.out.2.2.2.1.trans (o8.below H7.out.2.2.2.1.size); have x8 := o8.rowB H7.out.1 H7.out.2.2.2.2; have kN3 := KN3.out W8 _ _ _ _ _ s8; have H8 := hidden_ (And.intro s8 (And.intro r8 (And.intro t8 (And.intro b8 x8)))); clear kU s8 r8 t8 b8 x8 o8 H7 KN3)
      | (go_at_call 24; refine kN3.mono ?_; rintro e W9 ⟨rfl, ⟨a9, s9⟩, o9⟩; obtain ⟨r9, t9⟩ := o9.reads8 H8.out.1 H8.out.2.1 H8.out.2.2.1; have b9 := H8.out.2.2.2.1.trans (o9.below H8.out.2.2.2.1.size); have x9 := o9.rowB H8.out.1 H8.out.2.2.2.2; have kR2 := KR2.out W9 _ _ _ _ _ s9; have H9 := hidden_ (And.intro s9 (And.intro r9 (And.intro t9 (And.intro b9 x9)))); clear kN3 s9 r9 t9 b9 x9 o9 H8 KR2)
      | (go_at_call 11; refine kR2.mono ?_; rintro e W10 ⟨ay, l2, c2, rfl, b10'⟩; have s10 := H9.out.1.below b10'; have r10 := H9.out.2.1.below b10'; have x10 := H9.out.2.2.2.2.below b10'; have b10 := H9.out.2.2.2.1.trans (b10'.mono H9.out.2.2.2.1.size); have k13 := same_bytes ax lx cx W5 _ 40 40 W10 x10.reads r10; have H10 := hidden_ (And.intro s10 b10); clear kR2 s10 r10 x10 b10 b10' H9)
      | (go_at_call 13; refine k13.mono ?_; rintro e W11 ⟨rfl, m11, h11⟩; have s11 := H10.out.1.drewN m11; rw [← h11] at s11; have b11 := below_drew H10.out.2 ⟨m11, h11⟩; have kS := KS.out W11 _ _ _ _ _ s11; have H11 := hidden_ (And.intro s11 b11); clear k13 s11 b11 h11 H10)
      | (go_at_call 17; refine kS.mono ?_; rintro e W12 ⟨⟨as_, ls, cs, rfl, rs⟩, b12'⟩; have bL := below_new (Below.refl W12.heap.size W12) (.cells #[.string ⟨#[98]⟩] 9); have k16 := sameT_call (c := cs) (c' := 1) (rs.below bL).reads (litT W12 tB) (by have := rs.len; simp at this; omega); have s12 := (H11.out.1.below b12').below bL; have b12 := (H11.out.2.trans (b12'.mono H11.out.2.size)).trans (bL.mono (Nat.le_trans H11.out.2.size b12'.size)); have H12 := hidden_ (And.intro s12 b12); clear kS s12 b12 b12' bL rs H11)
      | (go_at_call 16; refine k16.mono ?_; rintro e W13 ⟨rfl, m13, h13⟩; have s13 := H12.out.1.drewN m13; rw [← h13] at s13; have b13 := below_drew H12.out.2 ⟨m13, h13⟩; have kI1 := KI1.out W13 _ _ _ _ _ s13; have kI2 := KI2.out W13 _ _ _ _ _ s13; have H13 := hidden_ b13; clear k16 s13 b13 h13 H12)
      | (go_at_call 14; refine kI1.mono ?_; rintro e w' ⟨rfl, h1⟩; obtain rfl := h1.symm; clear kI1)
      | (go_at_call 14; refine kI2.mono ?_; rintro e w' ⟨rfl, h1⟩; obtain rfl := h1.symm; clear kI2))
    go_ret
    exact ⟨rfl, H13.out⟩

end Go.Proofs.Ytfggkkhehaafcaa
