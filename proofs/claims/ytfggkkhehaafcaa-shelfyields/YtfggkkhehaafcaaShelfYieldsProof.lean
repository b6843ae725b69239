/- ShelfYields: what yields is what was pinned longest ago and is not held, its pages are free then, what is held stays, and what yielded can be pinned again; for every row of sizes and every row of bools, without a condition. -/
import Derived.Test.YtfggkkhehaafcaaRows
import Derived.Test.YtfggkkhehaafcaaView
import Derived.Test.YtfggkkhehaafcaaOwn
import Derived.Test.YtfggkkhehaafcaaPages
import Derived.Test.YtfggkkhehaafcaaReadsP
import Derived.Test.YtfggkkhehaafcaaReadsQ
import Derived.Test.YtfggkkhehaafcaaLeast
import Derived.Test.YtfggkkhehaafcaaLays
import Derived.Test.YtfggkkhehaafcaaNews
import Derived.Test.YtfggkkhehaafcaaGoods
import Derived.Test.YtfggkkhehaafcaaCount
import Derived.Test.YtfggkkhehaafcaaPlain
import Derived.Test.YtfggkkhehaafcaaLies
import Derived.Test.YtfggkkhehaafcaaCopies
import Derived.Test.YtfggkkhehaafcaaNeeds
import Derived.Test.YtfggkkhehaafcaaPlace
import Derived.Test.YtfggkkhehaafcaaFetch
import Derived.Test.YtfggkkhehaafcaaFetched
import Derived.Test.YtfggkkhehaafcaaRelease
import Derived.Test.YtfggkkhehaafcaaRefRel
import Derived.Test.YtfggkkhehaafcaaMapV
import Derived.Test.YtfggkkhehaafcaaShPlain
import Derived.Test.YtfggkkhehaafcaaShActs
import Derived.Test.YtfggkkhehaafcaaShAt
import Derived.Test.YtfggkkhehaafcaaIndex
import Derived.Test.YtfggkkhehaafcaaDelete
import Derived.Test.YtfggkkhehaafcaaShRd
import Derived.Test.YtfggkkhehaafcaaShTurn
import Derived.Test.YtfggkkhehaafcaaShRel
import Derived.Test.YtfggkkhehaafcaaShLoose
import Derived.Test.YtfggkkhehaafcaaShRoom
import Derived.Test.YtfggkkhehaafcaaShRem
import Derived.Test.YtfggkkhehaafcaaShRead
import Derived.Test.YtfggkkhehaafcaaShPut
import Derived.Test.YtfggkkhehaafcaaShBring
import Derived.Test.YtfggkkhehaafcaaShPin
import Derived.Test.YtfggkkhehaafcaaShIn
import Derived.Test.YtfggkkhehaafcaaWorks
import Derived.Test.YtfggkkhehaafcaaWorksK
import Derived.Test.YtfggkkhehaafcaaWorks14
import Derived.Test.YtfggkkhehaafcaaOldK
import Derived.Test.YtfggkkhehaafcaaOldM
import Derived.Test.YtfggkkhehaafcaaYieldZ
import Derived.WalkKit
import Derived.ProofKit
import Derived.OpenShut
import Derived.ChangeOld
import Derived.Below
import Derived.WalkLawsBesides
import Derived.ChangeMaps5
import Derived.Maps.OwnSet
import Derived.OwnWalk
import Derived.Deep.QuietTactic
import Derived.BigQuiet
import Derived.Maps.AppendAt
import Derived.Deep.LoopGhost
import Derived.Deep.Cut
import Derived.Deep.CutRange
import Derived.Deep.CutBlock
namespace Go.Proofs.Ytfggkkhehaafcaa.shelfYields
open Go.ChangeShapes Go.WideShapes Go.ChangeAt Go.RowKit
set_option linter.unusedVariables false
set_option linter.unusedSimpArgs false

theorem own : ownKnob Try.prog.godebug = none := by kernel_rfl
theorem laidOut : laidOutB Try.prog = true := by kernel_rfl


set_option maxHeartbeats 4000000 in
set_option maxRecDepth 20000 in
theorem walk (a0 : Option Addr) (n0 c0 : Nat) (z0 : List Int) (a1 : Option Addr) (n1 c1 : Nat) (B1 : Nat → Bool) (w : World) (w0 : Reads .i64 w a0 n0 z0) (e0 : a0 = none → c0 = 0) (l0 : n0 ≤ c0) (w1 : ReadH w a1 n1 B1) (e1 : a1 = none → c1 = 0) (l1 : n1 ≤ c1) :
    Calls Try.prog 6 #[.slice a0 n0 c0, .slice a1 n1 c1] w fun e w' => e = .returned (.bool true) ∧ Below w.heap.size w w' := by
  have k22 := works_call w
  have k7 := fun W => (show Calls Try.prog 7 #[.int .i64 200] W _ from new_call 200 (by decide) (by decide) W)
  have HR := hidden_ w0
  have HH := hidden_ w1
  have hmax := w0.max
  have hmax1 := w1.max
  clear w0 e0 l0 w1 e1 l1
  obtain ⟨n, hn6, hn0, hmin⟩ : ∃ n : Nat, n ≤ 6 ∧ n ≤ n0 ∧ min (6 : Int) (n0 : Int) = (n : Int) := ⟨min 6 n0, by omega, by omega, by omega⟩
  go_enter Try.func6, Try.ntmps6
  go_upto_region 6 with (first
    | (go_at_call 22; refine k22.mono ?_; rintro e W1 ⟨rfl, hb1⟩; have HB1 := hidden_ hb1; clear hb1 k22)
    | (go_at_call 7; refine (k7 W1).mono ?_; rintro e W2 ⟨rfl, hp2, hb2⟩; have k9 := sf_new (hp2 w.heap.size HB1.out.size) (by decide) (by decide); have HB2 := hidden_ (HB1.out.trans (hb2.mono HB1.out.size)); clear hp2 hb2)
    | (go_at_call 9; refine k9.mono ?_; rintro e W3 ⟨rfl, s3, hb3⟩; have HS3 := hidden_ s3; have HB3 := hidden_ (HB2.out.trans (hb3.mono HB2.out.size)); clear s3 hb3 k9))
  obtain ⟨nm0, rw0⟩ := lit6 W3
  have hbl := below_new (Below.refl W3.heap.size W3) (.cells (N6.map Value.string).toArray 9)
  obtain ⟨W4, eW4⟩ : ∃ W4, W3.alloc (.cells (N6.map Value.string).toArray 9) = W4 := ⟨_, rfl⟩
  rw [eW4] at nm0 rw0 hbl
  have eW4' : W3.alloc (.cells #[.string ⟨#[97]⟩, .string ⟨#[98]⟩, .string ⟨#[99]⟩, .string ⟨#[100]⟩, .string ⟨#[101]⟩, .string ⟨#[102]⟩] 9) = W4 := eW4
  rw [eW4']
  have HS4 := hidden_ (HS3.out.below hbl)
  have HB4 := hidden_ (HB3.out.trans (hbl.mono HB3.out.size))
  obtain ⟨Y, eY⟩ : ∃ Y : Addr, Y = ⟨W3.heap.size, 0, none⟩ := ⟨_, rfl⟩
  replace rw0 : Row 9 W4 Y.block 6 := by rw [eY]; exact rw0
  obtain ⟨x, ex⟩ : ∃ x : Nat, W2.heap.size + 1 = x := ⟨_, rfl⟩
  obtain ⟨mb, emb⟩ : ∃ mb : Nat, W2.heap.size = mb := ⟨_, rfl⟩
  obtain ⟨pb, epb⟩ : ∃ pb : Nat, W1.heap.size + 1 = pb := ⟨_, rfl⟩
  obtain ⟨g, eg⟩ : ∃ g : Nat, W1.heap.size = g := ⟨_, rfl⟩
  rw [ex, emb, epb, eg] at HS4
  rw [← eY] at nm0
  have H0 : Hid (YI1 w.heap.size w x mb pb g Y (wtOf z0) 0 0 none 0 0 W4) := hidden_ ⟨⟨none, _, _, [], ⟨HS4.out, RowT.nil _ _, fun k h => (by obtain ⟨_, h, _⟩ := h; cases h), fun i hi => (by
      obtain ⟨y, hy, rfl⟩ := hi
      obtain rfl := Option.some.inj hy
      exact ⟨fun h => (by obtain ⟨_, h, _⟩ := h; cases h), 6, rw0⟩), nm0, fun k h => (by obtain ⟨_, h, _⟩ := h; cases h), HB4.out⟩, y1_start _⟩⟩
  rw [ex, epb, ← eY]
  clear nm0 rw0 hbl eW4 eW4' HS3 HB3 HB2 HB1 eY ex emb epb eg k7 HS4 HB4
  go_cut [9] from 33 to 37 (fun v wx => v = .int .i64 (n : Int) ∧ wx = W4)
  case first =>
    have HN := hidden_ hmin
    rcases Nat.lt_trichotomy n0 6 with c | c | c
    · have c1 : (n0 : Int) < 6 := by omega
      have c2 : ¬ (6 : Int) < (n0 : Int) := by omega
      have c3 : ¬ (6 : Int) = (n0 : Int) := by omega
      clear hmin
      go_wp2
      go_meet
      case rel => exact ⟨by congr 1; have := HN.out; omega, rfl⟩
    · subst c
      clear hmin
      go_wp2
      go_meet
      case rel => exact ⟨by rw [show (n : Int) = 6 by have := HN.out; omega], rfl⟩
    · have c1 : (6 : Int) < (n0 : Int) := by omega
      have c2 : ¬ (n0 : Int) < 6 := by omega
      have c3 : ¬ (6 : Int) = (n0 : Int) := by omega
      clear hmin
      go_wp2
      go_meet
      case rel => exact ⟨by congr 1; have := HN.out; omega, rfl⟩
  case rest =>
    obtain ⟨rfl, rfl⟩ := hcut
    clear hmin
    go_wp2
    go_loopw [10, 11] (fun v i wr => ∃ (k : Nat) (oa : Option Addr) (ol oc : Nat), k ≤ n ∧ i = .int .i64 k ∧ v = .slice oa ol oc ∧ ol ≤ k ∧ Hid (YI1 w.heap.size w x mb pb g Y (wtOf z0) k (2 * k) oa ol oc wr)) (fun _ i _ => n - (intOf i).toNat)
    case atStart => exact ⟨0, none, 0, 0, Nat.zero_le _, rfl, rfl, Nat.le_refl _, H0⟩
    case round =>
      clear H0
      obtain ⟨k, oa, ol, oc, hkn, rfl, rfl, hol, hh⟩ := hrel
      by_cases hlt : k < n
      · obtain ⟨a, s, L, ord, yp, y1⟩ := hh.out.st
        obtain ⟨y, rfl⟩ := HR.out.some_ (by omega)
        have cz := (HR.out.below yp.bel).cell y rfl k (by omega)
        obtain ⟨hM, m1⟩ := sizeM_lt z0 k
        have hwl := wtOf_len z0 k
        have hwf := wtOf_wf z0 k (by omega)
        obtain ⟨p0, p1, p2, p3, p4⟩ := y1.next yp.sf.ok (by omega) (by omega) hwf
        have hsz := N6_small _ (N6_mem (show k < 6 by omega))
        obtain ⟨q, eq⟩ : ∃ q : Nat, q = sizeM z0 k + 1 := ⟨_, rfl⟩
        have hrd := wt_reads wr z0 k q (by omega) eq (by omega)
        have hbV : Below wr.heap.size wr ((wr.alloc (zeroB q)).setCell ⟨wr.heap.size, 0, none⟩ (.int .i8 (k : Int))) := (below_new (Below.refl _ wr) (zeroB q)).setCell (Nat.le_refl _) _
        have cq := zeroB_at wr q 0 (by omega)
        have fq : (wr.alloc (zeroB q)).frozen? ⟨wr.heap.size, 0, none⟩ = false := (zeroB_row wr q).open_ 0
        have hmk := madeB q (by omega)
        obtain ⟨V, eV⟩ : ∃ V, (wr.alloc (zeroB q)).setCell ⟨wr.heap.size, 0, none⟩ (.int .i8 (k : Int)) = V := ⟨_, rfl⟩
        rw [eV] at hrd hbV
        have ypV := yp.below hbV
        have kP := sf_put ypV.sf (by omega) (N6.getD k noText) hsz (some ⟨wr.heap.size, 0, none⟩) q q (wtOf z0 k) hrd (fun e => by cases e) (by omega)
        have cnV := ypV.nm.cell Y rfl k (show k < 6 by omega)
        have hw : IntKind.i8.wrap (k : Int) = (k : Int) := wrap_i8 (by omega) (by omega)
        obtain ⟨Z, eZ⟩ : ∃ Z, z0.getD k 0 = Z := ⟨_, rfl⟩
        obtain ⟨M, eM⟩ : ∃ M, sizeM z0 k = M := ⟨_, rfl⟩
        rw [eZ] at cz m1
        rw [eM] at m1 hM eq
        have eq1 : (1 : Int) + (M : Int) = (q : Int) := by omega
        have m2 : IntKind.u64.wrap Z % 500 = (M : Int) := by rw [← eM, ← eZ]; unfold sizeM; omega
        obtain ⟨t, et⟩ : ∃ t, N6.getD k noText = t := ⟨_, rfl⟩
        rw [et] at p0 p1 p2 p3 p4 hsz kP cnV
        rw [p0] at kP
        obtain ⟨L1, eL1⟩ : ∃ L1, putL L t (wtOf z0 k) = L1 := ⟨_, rfl⟩
        rw [eL1] at p1 p2 p3 p4 kP
        obtain ⟨qq, eqq⟩ : ∃ qq, pinP s L1 t = qq := ⟨_, rfl⟩
        rw [eqq] at p2 p3 p4
        have key1 : Hid (∀ W5, Sf w.heap.size W5 x mb pb g a s L1 (2 * k + 1) → OffS w.heap.size TS (SS mb a) V W5 → W5.cell? (Y.add k) = some (.string t) ∧ Calls Try.prog 24 #[.pointer (some ⟨x, 0, none⟩), .string t] W5 fun e W6 => e = .returned (.int .i64 0) ∧ ∃ a', W6.cell? (Y.add k) = some (.string t) ∧ YP w.heap.size w x mb pb g Y N6 oa ol oc ord a' qq.1 qq.2 (2 * k + 1 + 1) W6) := hidden_ (fun W5 s5 o5 => by
          have yp5 := ypV.step s5 o5 (fun _ h => .inl h)
          have c5 := yp5.nm.cell Y rfl k (show k < 6 by omega)
          rw [et] at c5
          refine ⟨c5, ?_⟩
          have := sf_pin s5 (by omega) t hsz
          rw [p1, eqq] at this
          refine this.mono ?_
          rintro e W6 ⟨rfl, ⟨a', s6, ha⟩, o6⟩
          have yp6 := yp5.step s6 o6 ha
          have c6 := yp6.nm.cell Y rfl k (show k < 6 by omega)
          rw [et] at c6
          exact ⟨rfl, a', c6, yp6⟩)
        have key2 : Hid (∀ W6 a', YP w.heap.size w x mb pb g Y N6 oa ol oc ord a' qq.1 qq.2 (2 * k + 1 + 1) W6 → (n1 ≤ k ∨ B1 k = false → Calls Try.prog 25 #[.pointer (some ⟨x, 0, none⟩), .string t] W6 fun e W7 => e = .returned (.int .i64 0) ∧ W7.cell? (Y.add k) = some (.string t) ∧ ∃ oa' oc' W8, (Builtin.append_ #[46, 46] 46 #[.slice oa ol oc, .slice (some ⟨W7.heap.size, 0, none⟩) 1 1]).run Try.prog (W7.alloc (.cells #[.string t] 9)) = .ok (.slice oa' (ol + 1) oc') W8 ∧ YI1 w.heap.size w x mb pb g Y (wtOf z0) (k + 1) (2 * (k + 1)) oa' (ol + 1) oc' W8) ∧ YI1 w.heap.size w x mb pb g Y (wtOf z0) (k + 1) (2 * (k + 1)) oa ol oc W6) := hidden_ (fun W6 a' yp6 => by
          refine ⟨fun _ => ?_, ⟨⟨a', _, _, _, yp6, p2⟩⟩⟩
          have := sf_unpin yp6.sf (by omega) t hsz
          rw [p3] at this
          refine this.mono ?_
          rintro e W7 ⟨rfl, s7, o7⟩
          have yp7 := yp6.step s7 o7 (fun _ h => .inl h)
          have c7 := yp7.nm.cell Y rfl k (show k < 6 by omega)
          rw [et] at c7
          obtain ⟨oa', oc', W8, hap, yp8⟩ := yp7.app t (by omega)
          exact ⟨rfl, c7, oa', oc', W8, hap, ⟨⟨a', _, _, _, yp8, p4⟩⟩⟩)
        have hh1 : Hid (∀ W6 a', YP w.heap.size w x mb pb g Y N6 oa ol oc ord a' qq.1 qq.2 (2 * k + 1 + 1) W6 → ReadH W6 a1 n1 B1) := hidden_ (fun W6 a' yp6 => HH.out.below yp6.bel)
        clear hh yp y1 p0 p1 p2 p3 p4 hwl hwf hsz hrd hbV ypV eZ eM et eL1 eqq hM eq
        by_cases hk1 : k < n1
        · obtain ⟨z1, rfl⟩ := HH.out.some_ (by omega)
          have hk1' : ¬ (n1 : Int) ≤ (k : Int) := by omega
          by_cases hB : B1 k = true
          · skip
            go_wp2_with (first
              | (go_at_call 23; refine kP.mono ?_; rintro e W5 ⟨rfl, s5, o5⟩; obtain ⟨c5, kN⟩ := key1.out W5 s5 o5; clear kP s5 o5 key1)
              | (go_at_call 24; refine kN.mono ?_; rintro e W6 ⟨rfl, a', c6, yp6⟩; have ch := (hh1.out W6 a' yp6).cell z1 rfl k hk1; rw [hB] at ch; obtain ⟨kU, yi⟩ := key2.out W6 a' yp6; have HY := hidden_ yi;  clear kN yp6 kU yi hh1 key2)
              | (go_at_call 25; refine kU'.mono ?_; rintro e W7 ⟨rfl, c7, oa', oc', W8, hap, yi8⟩; have HY8 := hidden_ yi8; clear kU' yi8)
              | (at_builtin; refine wpList_append_run rfl (.tmp 91) (.tmp 96) 46 rfl 46 rfl _ _ rfl rfl _ _ hap ?_))
            go_roundw
            case rel => exact ⟨k + 1, oa, ol, oc, by omega, by go_num, rfl, by omega, HY⟩
            case measure => simp [intOf]; omega
          · have hB' : B1 k = false := by simpa using hB
            clear hB
            go_wp2_with (first
              | (go_at_call 23; refine kP.mono ?_; rintro e W5 ⟨rfl, s5, o5⟩; obtain ⟨c5, kN⟩ := key1.out W5 s5 o5; clear kP s5 o5 key1)
              | (go_at_call 24; refine kN.mono ?_; rintro e W6 ⟨rfl, a', c6, yp6⟩; have ch := (hh1.out W6 a' yp6).cell z1 rfl k hk1; rw [hB'] at ch; obtain ⟨kU, yi⟩ := key2.out W6 a' yp6; have HY := hidden_ yi; have kU' := kU (.inr hB'); clear kN yp6 kU yi hh1 key2)
              | (go_at_call 25; refine kU'.mono ?_; rintro e W7 ⟨rfl, c7, oa', oc', W8, hap, yi8⟩; have HY8 := hidden_ yi8; clear kU' yi8)
              | (at_builtin; refine wpList_append_run rfl (.tmp 91) (.tmp 96) 46 rfl 46 rfl _ _ rfl rfl _ _ hap ?_))
            go_roundw
            case rel => exact ⟨k + 1, oa', ol + 1, oc', by omega, by go_num, rfl, by omega, HY8⟩
            case measure => simp [intOf]; omega
        · have hk1' : (n1 : Int) ≤ (k : Int) := by omega
          go_wp2_with (first
            | (go_at_call 23; refine kP.mono ?_; rintro e W5 ⟨rfl, s5, o5⟩; obtain ⟨c5, kN⟩ := key1.out W5 s5 o5; clear kP s5 o5 key1)
            | (go_at_call 24; refine kN.mono ?_; rintro e W6 ⟨rfl, a', c6, yp6⟩;  obtain ⟨kU, yi⟩ := key2.out W6 a' yp6; have HY := hidden_ yi; have kU' := kU (.inl (by omega)); clear kN yp6 kU yi hh1 key2)
            | (go_at_call 25; refine kU'.mono ?_; rintro e W7 ⟨rfl, c7, oa', oc', W8, hap, yi8⟩; have HY8 := hidden_ yi8; clear kU' yi8)
            | (at_builtin; refine wpList_append_run rfl (.tmp 91) (.tmp 96) 46 rfl 46 rfl _ _ rfl rfl _ _ hap ?_))
          go_roundw
          case rel => exact ⟨k + 1, oa', ol + 1, oc', by omega, by go_num, rfl, by omega, HY8⟩
          case measure => simp [intOf]; omega
      · obtain rfl : k = n := by omega
        have H2 : Hid (∃ oc', YI2 w.heap.size w x mb pb g Y (wtOf z0) k (2 * k) oa ol wr ∧ (oa = none ∨ ∃ gb, oa = some ⟨gb, 0, none⟩) ∧ ol ≤ oc ∧ oc ≤ 9223372036854775807 ∧ oc' = oc) := hidden_ (by
          obtain ⟨a, s, L, ord, yp, y1⟩ := hh.out.st
          refine ⟨oc, ⟨⟨a, s, L, ord, yp.sf, y1, yp.row.reads, yp.ap, yp.apY⟩, yp.nm, yp.bel⟩, ?_, yp.row.capMax.1, yp.row.capMax.2.1, rfl⟩
          rcases yp.row.own.2 with ⟨h1, _⟩ | ⟨g', cap, cur, h1, _⟩
          · simp only [Value.slice.injEq] at h1
            exact .inl h1.1
          · simp only [Value.slice.injEq] at h1
            exact .inr ⟨g', h1.1⟩)
        clear hh
        go_wp2
        rename World => W9
        go_loopg [10] ol (fun j v wr => ∃ (oa : Option Addr) (oc : Nat), v = .slice oa j oc ∧ Hid (YI2 w.heap.size w x mb pb g Y (wtOf z0) k (2 * k) oa j wr ∧ (oa = none ∨ ∃ gb o, oa = some ⟨gb, o, none⟩) ∧ j ≤ oc ∧ oc ≤ 9223372036854775807))
        case atStart =>
          obtain ⟨oc', h1, h2, h3, h4, _⟩ := H2.out
          refine ⟨oa, oc, rfl, hidden_ ⟨h1, ?_, h3, h4⟩⟩
          rcases h2 with h2 | ⟨gb, h2⟩
          · exact .inl h2
          · exact .inr ⟨gb, 0, h2⟩
        case round =>
          clear H2
          obtain ⟨oa2, oc2, rfl, hh⟩ := hrel
          have hk12 : 2 * k ≤ 900 := by omega
          by_cases hj : gk = 0
          · subst hj
            have H3 : Hid (∃ a s L, Sf w.heap.size wr x mb pb g a s L (2 * k) ∧ Y1 (wtOf z0) k s L [] ∧ Ap9 wr (some Y) a ∧ ReadT wr (some Y) 6 N6 ∧ Below w.heap.size w wr) := hidden_ (by
              obtain ⟨a, s, L, ord, sf, y1, rt, ap, apY⟩ := hh.out.1.st
              obtain rfl : ord = [] := List.eq_nil_of_length_eq_zero rt.len
              exact ⟨a, s, L, sf, y1, apY, hh.out.1.nm, hh.out.1.bel⟩)
            obtain ⟨a, s, L, sf, y1, apY, nm, bel⟩ := H3.out
            obtain ⟨v1, v2⟩ := y1.stop
            have k28 := sf_yield sf hk12
            rw [v1, v2] at k28
            have key : Hid (∀ W, Sf w.heap.size W x mb pb g a s L (2 * k) → OffS w.heap.size TS (SS mb a) wr W → YI3 w.heap.size w x mb pb g Y (wtOf z0) k (2 * k) W) := hidden_ (fun W s' o' => by
              obtain ⟨q3, q4⟩ := apY.kept sf o' (fun _ h => .inl h)
              exact ⟨⟨a, s, L, s', y1.y3, q3⟩, nm.kept q4, bel.trans (o'.below sf.lt)⟩)
            clear H3 hh sf y1 apY nm bel v1 v2
            go_wp2_with (first | (go_at_call 28; refine k28.mono ?_; rintro e V5 ⟨rfl, s5, o5⟩; have HY := hidden_ (key.out V5 s5 o5); clear k28 key s5 o5))
            rename World => V6
            go_loopw [21] (fun i wr => ∃ j : Nat, j ≤ k ∧ i = .int .i64 j ∧ Hid (YI3 w.heap.size w x mb pb g Y (wtOf z0) k (2 * k + j) wr)) (fun i _ => k - (intOf i).toNat)
            case atStart => exact ⟨0, Nat.zero_le _, rfl, HY⟩
            case round =>
              clear HY
              obtain ⟨j, hjk, rfl, hy⟩ := hrel
              by_cases hjl : j < k
              · obtain ⟨t, c0, kN⟩ := hy.out.round (by omega) hn6 hjl
                obtain ⟨y, rfl⟩ := HR.out.some_ (by omega)
                have HCZ := hidden_ (fun W (h : Below w.heap.size w W) => (HR.out.below h).cell y rfl j (by omega))
                obtain ⟨hM, m1⟩ := sizeM_lt z0 j
                have m2 : IntKind.u64.wrap (z0.getD j 0) % 500 = (sizeM z0 j : Int) := by unfold sizeM; omega
                have hw : IntKind.i8.wrap (j : Int) = (j : Int) := wrap_i8 (by omega) (by omega)
                obtain ⟨Z, eZ⟩ : ∃ Z, z0.getD j 0 = Z := ⟨_, rfl⟩
                obtain ⟨M, eM⟩ : ∃ M, sizeM z0 j = M := ⟨_, rfl⟩
                rw [eZ] at m1 m2 HCZ
                rw [eM] at m1 m2 hM kN
                obtain ⟨q, eq⟩ : ∃ q : Nat, M + 1 = q := ⟨_, rfl⟩
                rw [eq] at kN
                have eq1 : (1 : Int) + (M : Int) = (q : Int) := by omega
                have hq1 : 1 ≤ q := by omega
                have hq2 : q ≤ 501 := by omega
                clear hy eZ eM eq
                go_wp2_with (first
                  | (go_at_call 24; refine kN.mono ?_; rintro e V1 ⟨rfl, c1', k11⟩; clear kN)
                  | (go_at_call 11; refine k11.mono ?_; rintro e V2 ⟨y2, rc, rfl, hc1, hc2, rd, yi⟩; have cz := HCZ.out V2 yi.bel; have hbl := below_new (Below.refl V2.heap.size V2) (.cells #[.int .i8 (j : Int)] 59); have k13 := same_bytes (some y2) 1 rc [(j : Int)] (some ⟨V2.heap.size, 0, none⟩) 1 1 (V2.alloc (.cells #[.int .i8 (j : Int)] 59)) (rd.below hbl) (lit1 .i8 V2 59 _ rfl (j : Int) (wf_i8 (by omega) (by omega))); have HY := hidden_ (yi.below hbl); clear k11 rd yi hbl HCZ)
                  | (go_at_call 13; refine k13.mono ?_; rintro e V3 ⟨rfl, m3, h3⟩; have HY3 := hidden_ (HY.out.below (below_drew (Below.refl _ _) ⟨m3, h3⟩)); clear k13 h3 HY))
                go_roundw
                case rel => exact ⟨j + 1, by omega, by go_num, HY3⟩
                case measure => simp [intOf]; omega
              · obtain rfl : j = k := by omega
                have HB := hidden_ hy.out.bel
                clear hy
                go_wp2
                go_ret
                exact ⟨rfl, HB.out⟩
          · obtain ⟨J, rfl⟩ : ∃ J, gk = J + 1 := ⟨gk - 1, by omega⟩
            obtain ⟨gb, o, rfl⟩ : ∃ gb o, oa2 = some ⟨gb, o, none⟩ := by
              rcases hh.out.2.1 with e | e
              · obtain ⟨a, s, L, ord, sf, y1, rt, _⟩ := hh.out.1.st
                obtain ⟨y, hy⟩ := rt.some_ (by omega)
                rw [e] at hy
                cases hy
              · exact e
            obtain ⟨t, N0, F0, A0, N1, F1, A1, hF, hF0, hF1, c0, hts, k27, k28⟩ := hh.out.1.round hk12
            have hoc1 := hh.out.2.2.1
            have hoc2 := hh.out.2.2.2
            have hF' : ¬ F1 ≤ F0 := by omega
            clear hh
            have HK := hidden_ k28
            clear k28
            by_cases hoc : oc2 = 1
            · subst hoc
              obtain rfl : J = 0 := by omega
              go_wp2_with (first
                | (go_at_call 27; refine k27.mono ?_; rintro e V1 ⟨rfl, m1, h1⟩; have k28 := HK.out m1; rw [← h1] at k28; clear k27 h1 HK)
                | (go_at_call 28; refine k28.mono ?_; rintro e V2 ⟨rfl, c2, k29, k27', k11⟩; have HK2 := hidden_ k11; unfold plus at k29; clear k28 k11)
                | (go_at_call 29; refine k29.mono ?_; rintro e w' ⟨rfl, h1⟩; obtain rfl := h1.symm; clear k29)
                | (go_at_call 27; refine k27'.mono ?_; rintro e V3 ⟨rfl, m3, h3⟩; obtain ⟨c3, k11⟩ := HK2.out m3; rw [← h3] at c3 k11; clear k27' h3 HK2)
                | (go_at_call 11; refine k11.mono ?_; rintro e V4 ⟨ra, rl, rc, rfl, y4, y5⟩; have HY : Hid (YI2 w.heap.size w x mb pb g Y (wtOf z0) k (2 * k) (some ⟨gb, o, none⟩) 0 V4) := hidden_ (by first | exact y5 rfl | exact y5 | simpa using y5); clear k11 y4 y5))
              go_roundg 0
              case measure => omega
              case rel => exact ⟨some ⟨gb, o, none⟩, 0, rfl, hidden_ ⟨HY.out, .inr ⟨gb, o, rfl⟩, by omega, by omega⟩⟩
            · go_wp2_with (first
                | (go_at_call 27; refine k27.mono ?_; rintro e V1 ⟨rfl, m1, h1⟩; have k28 := HK.out m1; rw [← h1] at k28; clear k27 h1 HK)
                | (go_at_call 28; refine k28.mono ?_; rintro e V2 ⟨rfl, c2, k29, k27', k11⟩; have HK2 := hidden_ k11; unfold plus at k29; clear k28 k11)
                | (go_at_call 29; refine k29.mono ?_; rintro e w' ⟨rfl, h1⟩; obtain rfl := h1.symm; clear k29)
                | (go_at_call 27; refine k27'.mono ?_; rintro e V3 ⟨rfl, m3, h3⟩; obtain ⟨c3, k11⟩ := HK2.out m3; rw [← h3] at c3 k11; clear k27' h3 HK2)
                | (go_at_call 11; refine k11.mono ?_; rintro e V4 ⟨ra, rl, rc, rfl, y4, y5⟩; have HY := hidden_ y4; clear k11 y4 y5))
              go_roundg J
              case measure => omega
              case rel => exact ⟨some ⟨gb, o + 1, none⟩, oc2 - 1, by simp, hidden_ ⟨HY.out, .inr ⟨gb, o + 1, rfl⟩, by omega, by omega⟩⟩

set_option maxRecDepth 100000 in
theorem contract (H : Type) (enc : TypeId × Value → H) (W : World) (base : Nat) (args : Array Value) (ds gs : List (DataW H)) (before : List MemPlace)
    (hval0 : ∀ (j : Nat) t v, Try.f6.params[j]? = some t → args[j]? = some v → Value.okWide Try.prog W .any base t v)
    (hW : DataW.Whole enc Try.prog Try.f6.params.toList Rows.shelfYieldsSpec.vars false W args.toList ds gs before) :
    Calls Try.prog 6 args W fun e W' => ∃ v, e = .returned v ∧ Rows.shelfYieldsSpec.post enc Try.prog Try.f6 false true false false W args v W' := by
  have hval : ∀ (j : Nat) t v, Try.f6.params[j]? = some t → args[j]? = some v → Value.okWide Try.prog W .any base t v := hval0
  have hW' := hW
  obtain ⟨p, q, hA0, hV, rfl, hfz, hnd⟩ := hW
  have hA : DataW.TrodAll enc Try.prog W 0 (fun _ => true) true Try.f6.params.toList args.toList ds p := hA0
  rw [Try.params6] at hA hval
  obtain ⟨v0, vs0, d0, ds0, p0, q0, hargs, rfl, rfl, h0, r0⟩ := trodAll_cons hA
  obtain ⟨v1, vs1, d1, ds1, p1, q1, rfl, rfl, rfl, h1, r1⟩ := trodAll_cons r0
  obtain ⟨rfl, rfl, rfl⟩ := trodAll_nil r1
  obtain rfl : args = #[v0, v1] := by cases args; simp_all
  obtain ⟨rfl, rfl⟩ := trodVars_none hV
  obtain ⟨a0, n0, c0, rfl⟩ := okWide_slice Try.underlying58 (hval 0 58 v0 rfl rfl)
  have k0 := h0
  have lt0 : ∀ x ∈ p0, x.block < W.heap.size := by obtain ⟨m, hm⟩ := k0; exact DataW.trod_lt m _ _ _ hm
  obtain ⟨z0, w0, e0, l0, s0⟩ : ∃ zs, Reads .i64 W a0 n0 zs ∧ (a0 = none → c0 = 0) ∧ n0 ≤ c0 ∧ (n0 = 0 ∨ ∃ el sp, d0 = .slice el sp ∧ n0 ≤ el.length + sp.length) := by
    obtain ⟨fuel, hf⟩ := h0
    rcases open_ints Try.underlying58 Try.underlying3 (by kernel_rfl) hf with ⟨hcs, hd⟩ | ⟨x, l, c, zs, hcs, _, hl, hm, hz, hd, hcell, hwz⟩
    · simp [Value.cells] at hcs
      obtain ⟨rfl, rfl, rfl⟩ := hcs
      exact ⟨[], Reads.nil _ _, fun _ => rfl, Nat.le_refl _, .inl rfl⟩
    · simp [Value.cells] at hcs
      obtain ⟨rfl, rfl, rfl⟩ := hcs
      exact ⟨_, Reads.of_open hl hm (by simpa using hz) hcell hwz, (fun h => by cases h), hl, .inr ⟨_, _, congrArg Prod.fst hd, open_length (by simpa using hz) hl⟩⟩
  obtain ⟨a1, n1, c1, rfl⟩ := okWide_slice Try.underlying61 (hval 1 61 v1 rfl rfl)
  have k1 := h1
  have lt1 : ∀ x ∈ p1, x.block < W.heap.size := by obtain ⟨m, hm⟩ := k1; exact DataW.trod_lt m _ _ _ hm
  obtain ⟨B1, w1, e1, l1⟩ := open_hs h1
  clear hA0 hval0
  refine (walk a0 n0 c0 z0 a1 n1 c1 B1 W w0 e0 l0 w1 e1 l1).mono fun e W' ⟨he, bel⟩ => ?_
  subst he
  exact ⟨_, rfl, _, _, _, [], _, [], hW', trodAll_mk1 (shut_bool Try.underlying4 _), (trodAll_cons_mk (Below.trod laidOut (by kernel_rfl) (of_decide_eq_true (by kernel_rfl)) k0 bel lt0) (trodAll_cons_mk (Below.trod laidOut (by kernel_rfl) (of_decide_eq_true (by kernel_rfl)) k1 bel lt1) trodAll_mk0)), rfl, bel.frame _, fun h => by cases h⟩

set_option maxRecDepth 100000 in
theorem lifted (os : Os) (started : os.Started) (H : Type) (enc : TypeId × Value → H) :
    ReturnsInHanded {} Try.checked os 6 .any (Rows.shelfYieldsSpec.pre6 enc Try.prog Try.f6 Rows.shelfYieldsRow.domain false) (Rows.shelfYieldsSpec.post enc Try.prog Try.f6 false true false false) := by
  refine returnsInHanded_of_change (C := Try.checked) own started (by kernel_rfl) Try.func6
    (ChangeSpec.witness6 (enc := enc) (C := Try.checked) false ⟨#[], #[.slice none 0 0, .slice none 0 0], []⟩ 8 (by kernel_rfl) (by kernel_rfl) (by kernel_rfl) (by kernel_rfl)) ?_
  intro W base args ds gs before hval hW _ _
  exact contract H enc W base args ds gs before hval hW

theorem over : Rows.shelfYieldsRow.holds Try.pinned (OpenSpec.ofChange Rows.shelfYieldsSpec) :=
  OpenClaim.holds_of_wide 6 Try.f6 rfl rfl rfl rfl rfl rfl rfl ⟨rfl, rfl, rfl, rfl, rfl⟩ rfl rfl rfl rfl rfl (by kernel_rfl) Try.func6 (by kernel_rfl)
    (of_decide_eq_true (by kernel_rfl)) (by unfold Func.isWrapper; first | (rw [if_pos (by decide +kernel)]; kernel_rfl) | (rw [if_neg (by decide +kernel)]; exact ⟨rfl, rfl⟩))
    (fun os started H enc _ => lifted os started H enc)

theorem proved : Rows.ShelfYieldsSaid :=
  over
#print axioms proved
end Go.Proofs.Ytfggkkhehaafcaa.shelfYields
