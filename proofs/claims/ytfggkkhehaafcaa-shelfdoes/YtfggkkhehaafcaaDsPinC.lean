/- The document's Pin of one that is brought in. -/
import Derived.Test.YtfggkkhehaafcaaRows
import Derived.Test.YtfggkkhehaafcaaPages
import Derived.Test.YtfggkkhehaafcaaView
import Derived.Test.YtfggkkhehaafcaaOwn
import Derived.Test.YtfggkkhehaafcaaReadsP
import Derived.Test.YtfggkkhehaafcaaReadsQ
import Derived.Test.YtfggkkhehaafcaaLeast
import Derived.Test.YtfggkkhehaafcaaLays
import Derived.Test.YtfggkkhehaafcaaRefPg
import Derived.Test.YtfggkkhehaafcaaRefRd
import Derived.Test.YtfggkkhehaafcaaNews
import Derived.Test.YtfggkkhehaafcaaGoods
import Derived.Test.YtfggkkhehaafcaaPlain
import Derived.Test.YtfggkkhehaafcaaNeeds
import Derived.Test.YtfggkkhehaafcaaPlace
import Derived.Test.YtfggkkhehaafcaaFetch
import Derived.Test.YtfggkkhehaafcaaFetched
import Derived.Test.YtfggkkhehaafcaaMapV
import Derived.Test.YtfggkkhehaafcaaShPlain
import Derived.Test.YtfggkkhehaafcaaShActs
import Derived.Test.YtfggkkhehaafcaaShAt
import Derived.Test.YtfggkkhehaafcaaIndex
import Derived.Test.YtfggkkhehaafcaaShLoose
import Derived.Test.YtfggkkhehaafcaaShBring
import Derived.Test.YtfggkkhehaafcaaWorksK
import Derived.Test.YtfggkkhehaafcaaOpenOps
import Derived.Test.YtfggkkhehaafcaaDocA
import Derived.Test.YtfggkkhehaafcaaPlaces
import Derived.Test.YtfggkkhehaafcaaLies
import Derived.Test.YtfggkkhehaafcaaRelease
import Derived.Test.YtfggkkhehaafcaaRefRel
import Derived.Test.YtfggkkhehaafcaaInvIn
import Derived.Test.YtfggkkhehaafcaaDocB
import Derived.WalkKit
import Derived.ProofKit
import Derived.OpenShut
import Derived.Below
import Derived.WalkLawsBesides
import Derived.Deep.QuietTactic
import Derived.BigQuiet
import Derived.Maps.OwnSet
import Derived.Laws.OwnMore
import Derived.Maps.AppendAt
import Derived.OwnWalk
import Derived.Deep.RegionHeld3
import Derived.Deep.LoopGhost
namespace Go.Proofs.Ytfggkkhehaafcaa
open Go.ChangeShapes Go.WideShapes Go.ChangeAt Go.RowKit
set_option linter.unusedVariables false
set_option linter.unusedSimpArgs false

set_option maxHeartbeats 8000000 in
set_option maxRecDepth 20000 in
theorem refPin_yes {B : Nat} {w : World} {y p g cap : Nat} {a : Option Addr} {c : Nat} {D : List DI} {s : Pl} {r : Nat → Nat} (h : DsAt B w y p a c D) (hr : RefAt B w p g s r) (hok : ShOk cap s (itsD D)) (hc : cap ≤ 1000) (hB : B ≤ w.heap.size) (n : ByteArray) {K : Nat} {x : DI} (hK : D[K]? = some x) (hx : x.it.nm = n) (hne : ∀ (j : Nat) (u : DI), j < K → D[j]? = some u → u.it.nm ≠ n) (hlk : look (itsD D) n = some x.it) (his : x.it.is = false) (hroom : ¬ roomZ s (itsD D) < needZ x.it.W.length) :
    Calls Try.prog 32 #[.pointer (some ⟨y, 0, none⟩), .string n] w fun e w' => e = .returned (.int .i64 0) ∧ (∃ a' c' D' r', DsAt B w' y p a' c' D' ∧ itsD D' = bump (yieldsAll s (itsD D) (needZ x.it.W.length)).2 (laidIt (yieldsAll s (itsD D) (needZ x.it.W.length)).1 x.it) ∧ RefAt B w' p g (placeS (yieldsAll s (itsD D) (needZ x.it.W.length)).1 (plus x.it.nm) x.it.W) r') ∧ Off B TZ w w' := by
  have hl : D.length ≤ 1000 := by have := hok.few; unfold itsD at this; rw [List.length_map] at this; omega
  have c1 := h.c1
  have k44 := at_yes h n K x hK hx hne (by omega)
  have hm : x.it ∈ itsD D := List.mem_map.2 ⟨x, List.mem_of_getElem? hK, rfl⟩
  have hw := (hok.wts x.it hm).1
  have hnn : n.size ≤ 16 := by rw [← hx]; exact (hok.nm x.it hm).2
  have hE := pin_place hok hroom
  rw [hx] at hE
  obtain ⟨gg, ha, hBg, r1, r2, hKl, cc0, cc1, cc2, cc3, cc4⟩ := h.some_ hK
  have hits := h.its x (List.mem_of_getElem? hK)
  have hwl := hits.1.len
  have hbA := below_new (Below.refl w.heap.size w) (.cells x.cells.toArray 82)
  have hb0 : ItAt (w.alloc (.cells x.cells.toArray 82)) w.heap.size x := heap_alloc_new w _
  have k63 := fun W => refNeed_call (x.sw.n : Int) (by omega) (by omega) W
  have k20 := refRoom_call (h.below hbA) (hr.below hbA) hok hc
  have hob : ¬ blkOf a w.heap.size := fun hb => by
    obtain ⟨_, m, rr⟩ := own_blk h.own hb
    have := rr.lt
    omega
  have hcn : ((x.it.W.length : Nat) : Int) = (x.sw.n : Int) := by rw [hwl]
  rw [hcn] at hroom hE
  rw [hcn]
  obtain ⟨q, eq⟩ : ∃ q, yieldsAll s (itsD D) (needZ (x.sw.n : Int)) = q := ⟨_, rfl⟩
  rw [eq] at hE ⊢
  obtain ⟨M, eM⟩ : ∃ M, needZ (x.sw.n : Int) = M := ⟨_, rfl⟩
  simp only [eM] at k63 hroom eq
  have H0 : Hid (∀ m, PinL B (w.alloc (.cells x.cells.toArray 82)) y p g cap a c n x M q w.heap.size (((itsD D).filter loose).length + 1) K ((w.alloc (.cells x.cells.toArray 82)).drewN m)) := hidden_ (fun m => ⟨s, D, r, x, Nat.lt_succ_self _, (h.below hbA).drewN m, (hr.below hbA).drewN m, hok, by omega, eq, hlk, hK, hx, hb0, OffS.of_below ⟨rfl, rfl, rfl, Nat.le_refl _, fun _ _ => rfl⟩⟩)
  have hrowA : RowB B (w.alloc (.cells x.cells.toArray 82)) x.sw.a x.sw.n x.sw.c x.it.W := hits.1.off (T := fun _ => false) (B' := 0) (Off.of_below hbA) rfl
  have HE : Hid (∀ (wr : World) (s1 : Pl) (D1 : List DI) (r1 : Nat → Nat) (x1 : DI) (K1 : Nat), DsAt B wr y p a c D1 → RefAt B wr p g s1 r1 → ShOk cap s1 (itsD D1) → q = (s1, itsD D1) → look (itsD D1) n = some x.it → D1[K1]? = some x1 → x1.it.nm = n → ItAt wr w.heap.size x → OffS B TR (blkOf a) (w.alloc (.cells x.cells.toArray 82)) wr → ∀ m, Calls Try.prog 64 #[.pointer (some ⟨p, 0, none⟩), .string (plus n), .slice x.sw.a x.sw.n x.sw.c] (wr.drewN m) fun e V => ∃ la ll lc, e = .returned (.tuple #[.slice la ll lc, .int .i64 0]) ∧ (V.cell? ⟨y, 0, none⟩ = some (.pointer (some ⟨p, 0, none⟩)) ∧ V.cell? ⟨w.heap.size, 1, none⟩ = some (.slice x.sw.a x.sw.n x.sw.c)) ∧ V.cell? ⟨w.heap.size, 2, none⟩ = some (.slice x.sp.a x.sp.n x.sp.c) ∧ V.frozen? ⟨w.heap.size, 2, none⟩ = false ∧ ∃ V1, V.setCell ⟨w.heap.size, 2, none⟩ (.slice la ll lc) = V1 ∧ V1.cell? ⟨w.heap.size, 3, none⟩ = some (.bool false) ∧ V1.frozen? ⟨w.heap.size, 3, none⟩ = false ∧ ∃ V2, V1.setCell ⟨w.heap.size, 3, none⟩ (.bool true) = V2 ∧ V2.cell? ⟨w.heap.size, 4, none⟩ = some (.int .i64 0) ∧ V2.frozen? ⟨w.heap.size, 4, none⟩ = false ∧ ∃ V3 x', V2.setCell ⟨w.heap.size, 4, none⟩ (.int .i64 1) = V3 ∧
      (Calls Try.prog 62 #[.pointer (some ⟨y, 0, none⟩), .int .i64 (K1 : Int)] V3 fun e V => e = .returned (.tuple #[]) ∧ ∃ (a1 : Option Addr) (L1 c1 : Nat) (da : Option Addr) (dl dc : Nat) (W1 W2 W3 : World),
      (V.drew.cell? ⟨y, 1, none⟩ = some (.slice a1 L1 c1) ∧ ItAt V.drew w.heap.size x') ∧ (W1.cell? ⟨y, 1, none⟩ = some (.slice a1 L1 c1) ∧ ItAt W1 w.heap.size x') ∧ (W2.cell? ⟨y, 1, none⟩ = some (.slice a1 L1 c1) ∧ ItAt W2 w.heap.size x') ∧
      (Instr.buildSlice 34 1 #[(0, .agg x'.cells.toArray)]).run Try.prog V.drew = .ok (.slice (some ⟨V.heap.size, 0, none⟩) 1 1) W1 ∧
      (Builtin.append_ #[34, 34] 34 #[.slice a1 L1 c1, .slice (some ⟨V.heap.size, 0, none⟩) 1 1]).run Try.prog W1 = .ok (.slice da dl dc) W2 ∧
      (Instr.storeAt 34 (.pointer (some ⟨y, 1, none⟩)) (.slice da dl dc)).run Try.prog W2 = .ok () W3 ∧
      (∃ a' c' D' r', DsAt B W3 y p a' c' D' ∧ itsD D' = bump q.2 (laidIt q.1 x.it) ∧ RefAt B W3 p g (placeS q.1 (plus x.it.nm) x.it.W) r') ∧ Off B TZ w W3)) := hidden_ (by
    intro wr s1 D1 r1' x1 K1 hD hR ok hq hlk1 hK1 hx1 hb ho m
    have hB' : B ≤ wr.heap.size := Nat.le_trans hB (Nat.le_trans hbA.size ho.size)
    have hrow : RowB B wr x.sw.a x.sw.n x.sw.c x.it.W := hrowA.keep fun k hk => by
      obtain ⟨_, mm, rr⟩ := own_blk hrowA.own hk
      exact ho.row rr rfl (fun hbk => by
        obtain ⟨_, m', r'⟩ := own_blk (h.below hbA).own hbk
        exact r'.ne rr (by decide) rfl)
    have hz : Off B TZ w wr := (Off.of_below hbA).trans ((h.below hbA).toZ tz_tr ho)
    subst hq
    refine (pin_fin hD hR ok hc hlk1 hK1 hx1 hb hB' his hrow hE hB hob m).mono ?_
    rintro e V ⟨la, ll, lc, rfl, y1, y2, y3, V1, y4, y5, y6, V2, y7, y8, y9, V3, x', y10, k62⟩
    refine ⟨la, ll, lc, rfl, y1, y2, y3, V1, y4, y5, y6, V2, y7, y8, y9, V3, x', y10, k62.mono ?_⟩
    rintro e U ⟨rfl, a1, L1, c1, da, dl, dc, W1, W2, W3, S0, S1, S2, q1, q2, q3, hfin, hOO⟩
    exact ⟨rfl, a1, L1, c1, da, dl, dc, W1, W2, W3, S0, S1, S2, q1, q2, q3, hfin, hz.trans hOO⟩)
  obtain ⟨d0, d1, d2, d3, d4⟩ := hb0.cells
  have HS : Hid (∀ gk K1 wr, PinL B (w.alloc (.cells x.cells.toArray 82)) y p g cap a c n x M q w.heap.size gk K1 wr → ∃ Z : Int, wr.cell? ⟨y, 0, none⟩ = some (.pointer (some ⟨p, 0, none⟩)) ∧ (Calls Try.prog 49 #[.pointer (some ⟨y, 0, none⟩)] wr fun e w' => e = .returned (.int .i64 Z) ∧ ∃ m, w' = wr.drewN m) ∧ (Z < M → 0 < gk ∧ ∀ m, Calls Try.prog 41 #[.pointer (some ⟨y, 0, none⟩)] (wr.drewN m) fun e W => e = .returned (.bool true) ∧ ∃ K2 : Nat, (Calls Try.prog 44 #[.pointer (some ⟨y, 0, none⟩), .string n] W fun e w' => e = .returned (.int .i64 (K2 : Int)) ∧ w' = W) ∧ PinL B (w.alloc (.cells x.cells.toArray 82)) y p g cap a c n x M q w.heap.size (gk - 1) K2 W) ∧ (¬ Z < M → ∃ s1 D1 r1 x1, DsAt B wr y p a c D1 ∧ RefAt B wr p g s1 r1 ∧ ShOk cap s1 (itsD D1) ∧ q = (s1, itsD D1) ∧ look (itsD D1) n = some x.it ∧ D1[K1]? = some x1 ∧ x1.it.nm = n ∧ ItAt wr w.heap.size x ∧ OffS B TR (blkOf a) (w.alloc (.cells x.cells.toArray 82)) wr)) := hidden_ (fun gk K1 wr hP => hP.step hc his hob)
  obtain ⟨RZ, eR⟩ : ∃ RZ, roomZ s (itsD D) = RZ := ⟨_, rfl⟩
  rw [eR] at k20 hroom
  have hwn : x.sw.n ≤ 2000 := by omega
  obtain ⟨FF, eF⟩ : ∃ FF, ((itsD D).filter loose).length + 1 = FF := ⟨_, rfl⟩
  rw [eF] at H0
  obtain ⟨PZ, ePZ⟩ : ∃ PZ : Nat → Nat → World → Prop, PinL B (w.alloc (.cells x.cells.toArray 82)) y p g cap a c n x M q w.heap.size = PZ := ⟨_, rfl⟩
  have HL : Hid (∀ gk K1 wr, PZ gk K1 wr → ItAt wr w.heap.size x) := hidden_ (fun gk K1 wr hP => by rw [← ePZ] at hP; obtain ⟨_, _, _, _, _, _, _, _, _, _, _, _, _, hb, _⟩ := hP; exact hb)
  rw [ePZ] at H0 HS
  subst ha
  obtain ⟨⟨nm, Wt, Pp, is, pins⟩, ⟨wa, wn, wc⟩, ⟨pa, pn, pc⟩⟩ := x
  have hfin := hidden_ (show True from trivial)
  simp only [DI.cells] at cc0 cc1 cc2 cc3 cc4 d0 d1 d2 d3 d4 his hroom k63 k20 hwn H0
  simp only at HE HL
  subst his
  obtain ⟨pz, ep⟩ : ∃ pz : Int, (pins : Int) = pz := ⟨_, rfl⟩
  rw [ep] at cc4 d0 d1 d2 d3 d4 k20 H0
  obtain ⟨A, eA⟩ : ∃ A, w.alloc (.cells #[.string nm, .slice wa wn wc, .slice pa pn pc, .bool false, .int .i64 pz] 82) = A := ⟨_, rfl⟩
  rw [eA] at d0 d1 d2 d3 d4 k20 H0
  obtain ⟨ob, eob⟩ : ∃ ob, w.heap.size = ob := ⟨_, rfl⟩
  rw [eob] at d0 d1 d2 d3 d4 HE HL HS
  have hroom' : ¬ RZ < M := hroom
  have HQ : Hid (∃ q', q' = q) := hidden_ ⟨q, rfl⟩
  clear h hr hok hc hK hx hne hm hits hbA hb0 hBg hw hwl eR eM ep hrowA hob hlk hE hcn eq ePZ eF hB
  go_enter Try.func32, Try.ntmps32
  go_wp2_with (first
    | (go_at_call 44; refine k44.mono ?_; rintro e w' ⟨rfl, h1⟩; obtain rfl := h1.symm; clear k44)
    | (go_at_call 63; refine (k63 _).mono ?_; rintro e w' ⟨rfl, h1⟩; obtain rfl := h1.symm; clear k63)
    | (go_at_call 20; refine k20.mono ?_; rintro e V1 ⟨rfl, m1, h1⟩; have H1 := hidden_ h1; clear k20 h1))
  go_loopg [5] FF (fun gk v wr => ∃ K1 : Nat, v = .int .i64 K1 ∧ Hid (PZ gk K1 wr))
  case atStart => exact ⟨K, rfl, hidden_ (by rw [H1.out]; exact H0.out m1)⟩
  case round =>
    clear H0 H1
    obtain ⟨K1, rfl, hP⟩ := hrel
    obtain ⟨Z, y0, k49, hyes, hno⟩ := HS.out gk K1 wr hP.out
    have y1 := (HL.out gk K1 wr hP.out).cells.2.1
    simp only at y1
    by_cases hz : Z < M
    · obtain ⟨hk0, k41⟩ := hyes hz
      clear hyes hno y0 y1 hP d0 d1 d2 d3 d4 cc0 cc1 cc2 cc3 cc4
      go_wp2_with (first
        | (go_at_call 49; refine k49.mono ?_; rintro e W2 ⟨rfl, m', h1⟩; have k41' := k41 m'; rw [← h1] at k41'; clear k49 k41 h1)
        | (go_at_call 41; refine k41'.mono ?_; rintro e W3 ⟨rfl, K2, k44', hP'⟩; have HP' := hidden_ hP'; clear k41' hP')
        | (go_at_call 44; refine k44'.mono ?_; rintro e w' ⟨rfl, h1⟩; obtain rfl := h1.symm; clear k44'))
      go_roundg (gk - 1)
      case measure => omega
      case rel => exact ⟨K2, rfl, HP'⟩
    · obtain ⟨s1, D1, r1', x1, t1, t2, t3, t4, t5, t6, t7, t8, t9⟩ := hno (by omega)
      have kF := HE.out wr s1 D1 r1' x1 K1 t1 t2 t3 t4 t5 t6 t7 t8 t9
      simp only [plus] at kF
      have kpl : 1 + n.size ≤ 9223372036854775807 := by omega
      clear hyes hno hP t1 t2 t3 t4 t5 t6 t7 t8 t9 HE HS HL d0 d1 d2 d3 d4 cc0 cc1 cc2 cc3 cc4
      go_wp2_with (first
        | (go_at_call 49; refine k49.mono ?_; rintro e W2 ⟨rfl, m', h1⟩; have kF' := kF (m' + 1); rw [← World.drewN_drewN, ← h1] at kF'; have y0' : W2.cell? ⟨y, 0, none⟩ = some (.pointer (some ⟨p, 0, none⟩)) := (by rw [h1]; exact y0); have y1' : W2.cell? ⟨ob, 1, none⟩ = some (.slice wa wn wc) := (by rw [h1]; exact y1); clear k49 kF h1 y0 y1))
      go_region_with (first
        | (go_at_call 64; refine kF'.mono ?_; rintro e V ⟨la, ll, lc, rfl, d35, e2, f2, U1, eU1, e3, f3, U2, eU2, e4, f4, U3, x', eU3, k62⟩; clear kF'))
      all_goals
        obtain ⟨b0, b1⟩ := d35
        clear y0' y1'
        go_wp2_with (first
          | (go_at_call 62; refine k62.mono ?_; rintro e V1 ⟨rfl, a1, L1, c1, da, dl, dc, W1, W2, W3, S0, S1, S2, q1, q2, q3, hD, hO⟩; have HD := hidden_ (And.intro hD hO); clear k62 hD hO))
        refine dn_region y ob V1.heap.size (.agg x'.cells.toArray) a1 L1 c1 da dl dc W1 W2 W3 (fun W => W.cell? ⟨y, 1, none⟩ = some (.slice a1 L1 c1) ∧ ItAt W ob x') (by kernel_rfl) rfl ⟨_, rfl, rfl, rfl, rfl, by kernel_rfl⟩ ⟨_, rfl, rfl, rfl, rfl, by kernel_rfl⟩ ⟨_, rfl, rfl, rfl, rfl, by kernel_rfl⟩ ⟨_, rfl, rfl, rfl, rfl, by kernel_rfl⟩ ⟨_, rfl, rfl, rfl, rfl, by kernel_rfl⟩ ⟨_, rfl, rfl, rfl, rfl, by kernel_rfl⟩ ⟨_, rfl, rfl, rfl, rfl, by kernel_rfl⟩ ⟨_, rfl, rfl, rfl, rfl, by kernel_rfl⟩ ⟨_, rfl, rfl, rfl, rfl, by kernel_rfl⟩ ⟨_, rfl, rfl, rfl, rfl, by kernel_rfl⟩ ⟨_, rfl, rfl, rfl, rfl, by kernel_rfl⟩ 34 (fun o h => by cases h; rfl) S0 S1 S2 (run_field36 y 1 (by decide)) (fun W hW => run_load34 hW.1) (fun W hW => hW.2.load) q1 q2 (run_field36 y 1 (by decide)) q3 rfl rfl (Nat.le_of_ble_eq_true rfl) ?_
        intro Z hs' hd hkp hval
        have ep := frame_puts [69, 70, 71, 72, 73, 74, 75, 76, 77, 78] hs' hd (fun s h => hkp s (fun i hi e => h (by
          rcases (show i = 0 ∨ i = 1 ∨ i = 2 ∨ i = 3 ∨ i = 4 ∨ i = 5 ∨ i = 6 ∨ i = 7 ∨ i = 8 ∨ i = 9 ∨ i = 10 by omega) with rfl | rfl | rfl | rfl | rfl | rfl | rfl | rfl | rfl | rfl | rfl <;> (simp only [dnD, Option.some.injEq, reduceCtorEq] at e <;> (subst e; simp)))))
        simp only [List.foldl] at ep
        generalize Z.tmps.getD 69 undef = g69 at ep
        generalize Z.tmps.getD 70 undef = g70 at ep
        generalize Z.tmps.getD 71 undef = g71 at ep
        generalize Z.tmps.getD 72 undef = g72 at ep
        generalize Z.tmps.getD 73 undef = g73 at ep
        generalize Z.tmps.getD 74 undef = g74 at ep
        generalize Z.tmps.getD 75 undef = g75 at ep
        generalize Z.tmps.getD 76 undef = g76 at ep
        generalize Z.tmps.getD 77 undef = g77 at ep
        generalize Z.tmps.getD 78 undef = g78 at ep
        simp only [Act.put, List.setIfInBounds_toArray, List.set_cons_succ, List.set_cons_zero] at ep
        subst ep
        clear S0 S1 S2 q1 q2 q3 hs' hd hkp hval
        go_wp2
        go_ret
        exact ⟨rfl, HD.out.1, HD.out.2⟩

end Go.Proofs.Ytfggkkhehaafcaa
