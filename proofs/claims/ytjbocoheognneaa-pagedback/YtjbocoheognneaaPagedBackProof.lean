/- For every number of pages and every row of rows of weights (the first twenty): a row is placed just where the free pages have cells enough for it, each row that was placed is fetched as it was, whatever was placed beside it, and when all are released all pages are free again. -/
import Derived.Test.YtjbocoheognneaaRows
import Derived.Test.YtjbocoheognneaaPages
import Derived.Test.YtjbocoheognneaaView
import Derived.Test.YtjbocoheognneaaOwn
import Derived.Test.YtjbocoheognneaaSame
import Derived.Test.YtjbocoheognneaaWorks
import Derived.Test.YtjbocoheognneaaReadsP
import Derived.Test.YtjbocoheognneaaReadsQ
import Derived.Test.YtjbocoheognneaaCount
import Derived.Test.YtjbocoheognneaaLeast
import Derived.Test.YtjbocoheognneaaLays
import Derived.Test.YtjbocoheognneaaTurns
import Derived.Test.YtjbocoheognneaaRefPg
import Derived.Test.YtjbocoheognneaaRefTk
import Derived.Test.YtjbocoheognneaaNews
import Derived.Test.YtjbocoheognneaaGoods
import Derived.Test.YtjbocoheognneaaPlain
import Derived.Test.YtjbocoheognneaaNeeds
import Derived.Test.YtjbocoheognneaaPlace
import Derived.Test.YtjbocoheognneaaPlaces
import Derived.Test.YtjbocoheognneaaFetch
import Derived.Test.YtjbocoheognneaaFetches
import Derived.Test.YtjbocoheognneaaFetched
import Derived.Test.YtjbocoheognneaaRelease
import Derived.Test.YtjbocoheognneaaRefRel
import Derived.Test.YtjbocoheognneaaLies
import Derived.Test.YtjbocoheognneaaWorks12
import Derived.Test.YtjbocoheognneaaMany
import Derived.WalkKit
import Derived.ProofKit
import Derived.OpenShut
import Derived.ChangeOld
import Derived.Below
import Derived.WalkLawsBesides
import Derived.ChangeMaps5
import Derived.Deep.QuietTactic
import Derived.BigQuiet
import Derived.OwnWalk
import Derived.Deep.RegionHeld3
import Derived.RangeFuncBox
namespace Go.Proofs.Ytjbocoheognneaa.pagedBack
open Go.ChangeShapes Go.WideShapes Go.ChangeAt Go.RowKit
set_option linter.unusedVariables false
set_option linter.unusedSimpArgs false

theorem own : ownKnob Try.prog.godebug = none := by kernel_rfl
theorem laidOut : laidOutB Try.prog = true := by kernel_rfl


set_option maxHeartbeats 4000000 in
set_option maxRecDepth 20000 in
theorem walk (a0 : Int) (a1 : Option Addr) (n1 c1 : Nat) (A1 : Nat → Option Addr) (C1 : Nat → Nat) (R1 : Nat → List Int) (w : World) (w0 : (Lit.int .i64 a0).wf = true) (w1 : GridB w a1 n1 A1 C1 R1) (e1 : a1 = none → c1 = 0) (l1 : n1 ≤ c1) :
    Calls Try.prog 4 #[.int .i64 a0, .slice a1 n1 c1] w fun e w' => e = .returned (.bool true) ∧ Below w.heap.size w w' := by
  obtain ⟨i1, hi1, hz01, hz11, hz21⟩ := info_parts info31
  obtain ⟨i2, hi2, hz02, hz12, hz22⟩ := info_parts info32
  have hm1 := w1.max
  obtain ⟨M, hM, (eM : (IntKind.u64.wrap a0).tmod 64 = (M : Int)), (eM' : IntKind.u64.wrap a0 % 64 = (M : Int))⟩ := restN a0 64 (by decide)
  obtain ⟨N, eN⟩ : ∃ N : Nat, 1 + M = N := ⟨_, rfl⟩
  have eN' : (1 : Int) + (M : Int) = (N : Int) := by omega
  have hN : 1 ≤ N ∧ N ≤ 64 := by omega
  clear eN
  have k23 := works_call w
  have k6 := new_call N (by omega) (by omega)
  have hG1 := hidden_ w1
  have hb := hidden_ (Below.refl w.heap.size w)
  clear w1
  go_enter Try.func4, Try.ntmps4
  go_wp2_with (first
    | (go_at_call 23; refine k23.mono ?_; rintro e W1 ⟨rfl, hb'⟩; clear k23; replace hb := hidden_ hb'; clear hb')
    | (go_at_call 6; refine (k6 _).mono ?_; rintro e W2 ⟨rfl, hp', hbl⟩; clear k6; have hp := hidden_ (hp' _ hb.out.size); replace hb := hidden_ (below_then hb.out hbl); clear hp' hbl))
  obtain ⟨b, eb⟩ : ∃ b, W1.heap.size + 1 = b := ⟨_, rfl⟩
  rw [eb] at hp ⊢
  clear eb
  obtain ⟨g, eg⟩ : ∃ g, W1.heap.size = g := ⟨_, rfl⟩
  rw [eg] at hp
  clear eg eM eM' eN'
  go_loopw [7, 8, 9] (fun v7 v8 i wr => ∃ k : Nat, k ≤ n1 ∧ k ≤ 20 ∧ i = .int .i64 k ∧ (∃ K s P Wt Q Y, K ≤ k ∧ Placed N K s P Wt ∧ Kept w.heap.size w wr v7 v8 K P Wt Q Y ∧ PoolAt w.heap.size wr b g s) ∧ Below w.heap.size w wr) (fun _ _ i _ => n1 - (intOf i).toNat)
  case atStart => exact ⟨0, Nat.zero_le _, Nat.zero_le _, rfl, ⟨0, newPl N, fun _ => [], fun _ => [], fun _ => ⟨none, 0, 0⟩, fun _ => ⟨none, 0, 0⟩, Nat.le_refl _, placed_new N (by omega) (by omega) _ _, ⟨World.ownsRow_nil _ _ _ _, World.ownsRow_nil _ _ _ _, fun i hi => by omega, fun i hi => by omega⟩, hp.out⟩, hb.out⟩
  case round =>
    clear hp hb
    obtain ⟨k, hk, hk', rfl, ⟨K, s, P, Wt, Q, Y, hKk, hPl, hKe, hp⟩, hb⟩ := hrel
    obtain ⟨a7, c7, rfl⟩ := own_form hKe.own7
    obtain ⟨a8, c8, rfl⟩ := own_form hKe.own8
    by_cases hlt : k < n1 ∧ k < 20
    · obtain ⟨y1, y2⟩ := hlt
      have y1' : (k : Int) < (n1 : Int) := by omega
      have y2' : (k : Int) < 20 := by omega
      obtain ⟨x, rfl⟩ := hG1.out.some_ (by omega)
      have hgr := hG1.out.below hb
      have cx := hgr.cell x rfl k y1
      have k24 := sizes_call hp (by rw [hPl.n]; omega)
      have hrd : ∀ w', Off w.heap.size TP wr w' → Reads .i8 w' (A1 k) (R1 k).length (R1 k) := fun w' o => (hG1.out.row k y1).below (hb.trans (o.below hb.size))
      have k10 := fun m => placed_call (hp.drewN m) hPl.good (by decide) tM (A1 k) (R1 k).length (C1 k) (R1 k) (fun w' o => hrd w' (Off.of_drawn o rfl))
      have hfr := freeTo_le s.pg N
      have hft := place_fits hPl.aside (R1 k)
      have hmx := (hG1.out.row k y1).max
      rw [hPl.n, hPl.aside] at k24
      rw [hPl.n] at hft
      obtain ⟨F, eF⟩ : ∃ F, freeTo s.pg N = F := ⟨_, rfl⟩
      rw [eF] at k24 hft hfr
      have hcell : Hid (∀ w', Off w.heap.size TP wr w' → w'.cell? (x.add k) = some (.slice (A1 k) (R1 k).length (C1 k))) := fun w' o => (hG1.out.below (hb.trans (o.below hb.size))).cell x rfl k y1
      have hwf := (hG1.out.row k y1).wf_mem
      have HL := hidden_ (World.block_lt_of_cell? _ _ (hG1.out.cell x rfl k y1))
      by_cases hfit : (R1 k).length ≤ 32 * F
      · have h0 := hft.1 hfit
        have hst := hPl.step (R1 k) hwf h0
        simp only [h0] at k10
        have HS := hidden_ (And.intro hst (And.intro hKe (And.intro hb (hG1.out.row k y1))))
        have hfit' : ((R1 k).length : Int) ≤ 32 * (F : Int) := by omega
        obtain ⟨LR, eLR⟩ : ∃ LR, (R1 k).length = LR := ⟨_, rfl⟩
        obtain ⟨S, eS⟩ : ∃ S, placeS s tM (R1 k) = S := ⟨_, rfl⟩
        obtain ⟨PR, ePR⟩ : ∃ PR, placeR s tM (R1 k) = PR := ⟨_, rfl⟩
        simp only [eS, ePR, eLR] at k10
        rw [eLR] at cx hfit' hmx hcell
        rw [eS, ePR, eLR] at HS
        obtain ⟨XA, eXA⟩ : ∃ XA, A1 k = XA := ⟨_, rfl⟩
        obtain ⟨XC, eXC⟩ : ∃ XC, C1 k = XC := ⟨_, rfl⟩
        simp only [eXA, eXC] at k10
        rw [eXA, eXC] at cx hcell
        rw [eXA] at HS
        have e00 : ((0 : Int) == 0) = true := rfl
        unfold tM at k10
        clear hft h0 hst hgr hrd hfit eF hwf hKe hPl hp hb eS ePR
        go_wp2_with (first
          | (go_at_call 24; refine k24.mono ?_; rintro e W3 ⟨rfl, m3, h3⟩; clear k24; have k10' := k10 m3; rw [← h3] at k10'; have o3 : Off w.heap.size TP wr W3 := (by rw [h3]; exact (Off.refl _ _ _).drewN m3); have cx3 := hcell.out W3 o3; have H3 := hidden_ o3; clear h3 k10 o3)
          | (go_at_call 10; refine k10'.mono ?_; rintro e W4 ⟨a4, l4, c4, rfl, hr4, hp4, ho4⟩; clear k10'; have o4 := H3.out.trans ho4; have cx4 := hcell.out W4 o4; have hk4 := HS.out.2.1.off o4 rfl rfl rfl; have own7 := hk4.own7; have own8 := hk4.own8; have H4 := hidden_ (And.intro (hr4.mono (Nat.le_trans HS.out.2.2.1.size H3.out.size)) (And.intro hp4 (And.intro o4 hk4))); have hs4 : w.heap.size ≤ W4.heap.size := Nat.le_trans HS.out.2.2.1.size o4.size; clear hr4 hp4 ho4 o4 hk4)
          | (at_builtin; refine wpList_append_own _ rfl (.tmp 78) (.tmp 80) 52 rfl w.heap.size 32 i2 (.slice none 0 0) 1 24 Try.underlying52 hi2 hz02 hz12 hz22 rfl (by decide) _ _ _ rfl (World.ownsRow.alloc (w := W4) own7 _) ⟨_, 0, none⟩ 1 1 [.slice a4 l4 c4] rfl rfl (one_new _ _ _) (one_slice _ _ _) (by unfold maxLen; omega) (by omega) (by simp; omega) ?_; intro v7 W5 own7' hg5 _; have o5 := off_append own7 hg5; have own8' := own_off own8 o5 rfl; have hs5 : w.heap.size ≤ W5.heap.size := Nat.le_trans hs4 o5.size; have cx5 : W5.cell? (x.add k) = some (.slice XA LR XC) := ((o5.below hs4).cell (p := x.add k) HL.out).trans cx4; have H5 := hidden_ o5; clear own7 own8 o5 hg5)
          | (at_builtin; refine wpList_append_own _ rfl (.tmp 82) (.tmp 87) 50 rfl w.heap.size 31 i1 (.slice none 0 0) 1 24 Try.underlying50 hi1 hz01 hz11 hz21 rfl (by decide) _ _ _ rfl (World.ownsRow.alloc (w := W5) own8' _) ⟨_, 0, none⟩ 1 1 [.slice XA LR XC] rfl rfl (one_new _ _ _) (one_slice _ _ _) (by unfold maxLen; omega) (by omega) (by simp; omega) ?_; intro v8 W6 own8'' hg6 _; have o6 := off_append own8' hg6; have own7'' := own_off own7' o6 rfl; have H6 := hidden_ (And.intro o6 (And.intro own7'' own8'')); clear own7' own8' own8'' o6 hg6))
        go_roundw
        case rel =>
          obtain ⟨hr4, hp4, o4, hk4⟩ := H4.out
          obtain ⟨o6, own7, own8⟩ := H6.out
          have b4 := HS.out.2.2.1.trans (o4.below HS.out.2.2.1.size)
          have b5 := b4.trans (H5.out.below hs4)
          have b6 := b5.trans (o6.below hs5)
          refine ⟨k + 1, by omega, by omega, by go_num, ⟨K + 1, S, upd P K PR, upd Wt K (R1 k), upd Q K ⟨a4, l4, c4⟩, upd Y K ⟨XA, LR, XC⟩, by omega, HS.out.1, ⟨by rw [sls_snoc]; exact own7, by rw [sls_snoc]; exact own8, fun i hi => ?_, fun i hi => ?_⟩, (hp4.off H5.out rfl rfl).off o6 rfl rfl⟩, b6⟩
          · by_cases e : i = K
            · subst e
              rw [upd_same, upd_same]
              exact (hr4.off H5.out rfl).off o6 rfl
            · rw [upd_other _ _ _ _ e, upd_other _ _ _ _ e]
              exact ((hk4.row i (by omega)).off H5.out rfl).off o6 rfl
          · by_cases e : i = K
            · subst e
              rw [upd_same, upd_same]
              exact HS.out.2.2.2
            · rw [upd_other _ _ _ _ e, upd_other _ _ _ _ e]
              exact hk4.inn i (by omega)
        case measure => simp [intOf]; omega
      · have h0 := hft.2 hfit
        have e2 : placeS s tM (R1 k) = s := by unfold placeS; rw [if_neg (by rw [h0]; decide)]
        simp only [h0, e2] at k10
        have HS := hidden_ (And.intro hPl (And.intro hKe (And.intro hb hKk)))
        have hfit' : ¬ ((R1 k).length : Int) ≤ 32 * (F : Int) := by omega
        obtain ⟨LR, eLR⟩ : ∃ LR, (R1 k).length = LR := ⟨_, rfl⟩
        obtain ⟨PR, ePR⟩ : ∃ PR, placeR s tM (R1 k) = PR := ⟨_, rfl⟩
        simp only [ePR, eLR] at k10
        rw [eLR] at cx hfit' hmx hcell
        obtain ⟨XA, eXA⟩ : ∃ XA, A1 k = XA := ⟨_, rfl⟩
        obtain ⟨XC, eXC⟩ : ∃ XC, C1 k = XC := ⟨_, rfl⟩
        simp only [eXA, eXC] at k10
        rw [eXA, eXC] at cx hcell
        have e60 : ((6 : Int) == 0) = false := rfl
        unfold tM at k10
        clear hft h0 hgr hrd hfit eF hwf hKe hPl hp hb ePR e2 HL
        go_wp2_with (first
          | (go_at_call 24; refine k24.mono ?_; rintro e W3 ⟨rfl, m3, h3⟩; clear k24; have k10' := k10 m3; rw [← h3] at k10'; have o3 : Off w.heap.size TP wr W3 := (by rw [h3]; exact (Off.refl _ _ _).drewN m3); have cx3 := hcell.out W3 o3; have H3 := hidden_ o3; clear h3 k10 o3)
          | (go_at_call 10; refine k10'.mono ?_; rintro e W4 ⟨a4, l4, c4, rfl, hr4, hp4, ho4⟩; clear k10'; have o4 := H3.out.trans ho4; have cx4 := hcell.out W4 o4; have H4 := hidden_ (And.intro hp4 o4); clear hr4 hp4 ho4 o4))
        go_roundw
        case rel => exact ⟨k + 1, by omega, by omega, by go_num, ⟨K, s, P, Wt, Q, Y, by omega, HS.out.1, HS.out.2.1.off H4.out.2 rfl rfl rfl, H4.out.1⟩, HS.out.2.2.1.trans (H4.out.2.below HS.out.2.2.1.size)⟩
        case measure => simp [intOf]; omega
    · have hstop : ¬ ((k : Int) < (n1 : Int)) ∨ ¬ ((k : Int) < 20) := by omega
      have hK20 : K ≤ 20 := by omega
      have HS := hidden_ (And.intro hPl (And.intro hKe (And.intro hp hb)))
      clear hPl hKe hp hb
      have hgo : (decide ((k : Int) < (n1 : Int)) && decide ((k : Int) < 20)) = false := by
        rcases hstop with h | h <;> simp [h]
      by_cases hkn : (k : Int) < (n1 : Int)
      · have hk20 : ¬ (k : Int) < 20 := by omega
        go_wp2
        go_loopw [15] (fun i wr => ∃ q : Nat, q ≤ K ∧ i = .int .i64 q ∧ Kept w.heap.size w wr (.slice a7 K c7) (.slice a8 K c8) K P Wt Q Y ∧ PoolAt w.heap.size wr b g s ∧ Below w.heap.size w wr) (fun i _ => K - (intOf i).toNat)
        case atStart => exact ⟨0, Nat.zero_le _, rfl, HS.out.2.1, HS.out.2.2.1, HS.out.2.2.2⟩
        case round =>
          obtain ⟨q, hq, rfl, hKe, hp, hb⟩ := hrel
          by_cases hlt2 : q < K
          · have hPl := HS.out.1
            obtain ⟨x7, e7, cx7⟩ := own_cell hKe.own7 (sls_at Q K q hlt2)
            obtain ⟨x8, e8, cx8⟩ := own_cell hKe.own8 (sls_at Y K q hlt2)
            subst e7 e8
            have hli := hPl.lies q hlt2
            have hrow := hKe.row q hlt2
            have hin := hKe.inn q hlt2
            obtain ⟨f1, f2⟩ := hli.fetch (by decide) (hPl.wf q hlt2)
            have hpl : (P q).length ≤ 256 := by
              have h1 := hPl.free
              have h2 := sumL_le P q K hlt2
              omega
            have k13 := fetched_call (hp.drewN 1) hPl.good (Q q).a (Q q).n (Q q).c (P q) (hrow.reads.drewN 1) (by rw [← hrow.len]; omega) hrow.lt ((Wt q).length : Int) (by omega) (by have := hin.max; rw [hin.len]; omega)
            rw [f1, f2, hin.len] at k13
            have k15 := fun (W : World) (a2 : Option Addr) (l2 c2 : Nat) (r : Reads .i8 W a2 l2 (Wt q)) (r2 : Reads .i8 W (Y q).a (Y q).n (Wt q)) => same_bytes a2 l2 c2 (Wt q) (Y q).a (Y q).n (Y q).c W r r2
            have hwmax := hin.max
            have HR := hidden_ (And.intro hKe (And.intro hb (And.intro hin cx8)))
            have hq' : (q : Int) < (K : Int) := by omega
            have HC : Hid (∀ W3 : World, Below wr.heap.size wr W3 → W3.cell? (x7.add q) = some (.slice (Q q).a (Q q).n (Q q).c) ∧ W3.cell? (x8.add q) = some (.slice (Y q).a (Y q).n (Y q).c)) := fun W3 o => ⟨(o.cell (World.block_lt_of_cell? _ _ cx7)).trans cx7, (o.cell (World.block_lt_of_cell? _ _ cx8)).trans cx8⟩
            have d7 : wr.drew.cell? (x7.add q) = some (.slice (Q q).a (Q q).n (Q q).c) ∧ wr.drew.cell? (x8.add q) = some (.slice (Y q).a (Y q).n (Y q).c) := ⟨cx7, cx8⟩
            have K15 := hidden_ k15
            have e00 : ((0 : Int) != 0) = false := rfl
            clear hKe hp hb hli hrow hin f1 f2 hPl k15 cx7 cx8 hpl
            obtain ⟨QA, eQA⟩ : ∃ QA, (Q q).a = QA := ⟨_, rfl⟩
            obtain ⟨QN, eQN⟩ : ∃ QN, (Q q).n = QN := ⟨_, rfl⟩
            obtain ⟨QC, eQC⟩ : ∃ QC, (Q q).c = QC := ⟨_, rfl⟩
            obtain ⟨YA, eYA⟩ : ∃ YA, (Y q).a = YA := ⟨_, rfl⟩
            obtain ⟨YN, eYN⟩ : ∃ YN, (Y q).n = YN := ⟨_, rfl⟩
            obtain ⟨YC, eYC⟩ : ∃ YC, (Y q).c = YC := ⟨_, rfl⟩
            simp only [eQA, eQN, eQC, eYA, eYN, eYC] at k13 HC d7 K15
            rw [eYN] at hwmax
            rw [eYA, eYN] at HR
            obtain ⟨d7, d8⟩ := d7
            clear eQA eQN eQC eYA eYN eYC
            go_wp2
            go_region_held3 (fun W => W.cell? (x7.add q) = some (.slice QA QN QC) ∧ W.cell? (x8.add q) = some (.slice YA YN YC)) (first | assumption | (exact ⟨d7, d8⟩) | exact d78) (first
              | (go_at_call 13; refine k13.mono ?_; rintro e W3 ⟨a2, l2, c2, rfl, hr2, hp2, hb2⟩; have hb2' : Below wr.heap.size wr W3 := ⟨hb2.os, hb2.tape, hb2.output, hb2.size, hb2.block⟩; have d78 := HC.out W3 hb2'; have k15 := K15.out W3 a2 l2 c2 hr2.reads (HR.out.2.2.1.below (below_then HR.out.2.1 hb2')); have H3 := hidden_ (And.intro hp2 hb2'); clear hr2 hp2 hb2 hb2'))
            obtain ⟨f7, f8⟩ := HC.out W3 H3.out.2
            clear k13 K15
            go_wp2_with (first
              | (go_at_call 15; refine k15.mono ?_; rintro e W5 ⟨rfl, m5, h5⟩; have H5 := hidden_ h5; clear h5 k15))
            go_roundw
            case rel =>
              have hb5 : Below wr.heap.size wr W5 := below_drew H3.out.2 ⟨m5, H5.out⟩
              exact ⟨q + 1, by omega, by go_num, HR.out.1.below hb5, by rw [H5.out]; exact H3.out.1.drewN m5, below_then HR.out.2.1 hb5⟩
            case measure => simp [intOf]; omega
          · have e : q = K := by omega
            subst e
            have HT := hidden_ (And.intro HS.out.1.freed (And.intro hKe (And.intro hp hb)))
            clear hKe hp hb HS
            go_wp2
            go_loopw [18] (fun i wr => ∃ j : Nat, j ≤ q ∧ i = .int .i64 j ∧ (∃ s', Freed N q j s' P Wt ∧ PoolAt w.heap.size wr b g s') ∧ Kept w.heap.size w wr (.slice a7 q c7) (.slice a8 q c8) q P Wt Q Y ∧ Below w.heap.size w wr) (fun i _ => q - (intOf i).toNat)
            case atStart => exact ⟨0, Nat.zero_le _, rfl, ⟨s, HT.out.1, HT.out.2.2.1⟩, HT.out.2.1, HT.out.2.2.2⟩
            case round =>
              clear HT
              obtain ⟨j, hj, rfl, ⟨s', hF, hp⟩, hKe, hb⟩ := hrel
              by_cases hlt3 : j < q
              · obtain ⟨x7, e7, cx7⟩ := own_cell hKe.own7 (sls_at Q q j hlt3)
                subst e7
                have hrow := hKe.row j hlt3
                obtain ⟨e0, hF2⟩ := hF.step hlt3
                have hpl : (P j).length ≤ 256 := by
                  have h1 := hF.free
                  have h2 := sumL_le P j q hlt3
                  have h3 := freeTo_le s'.pg N
                  have h4 := (hF.lies j (Nat.le_refl _) hlt3).own
                  have h5 := pages_few h4
                  rw [hF.n] at h5
                  omega
                have k16 := release_call hp hF.good (by decide) (Q j).a (Q j).n (Q j).c (P j) (fun w' o => (hrow.off o rfl).reads) (by rw [← hrow.len]; omega)
                rw [e0] at k16
                have HR := hidden_ (And.intro hF2 (And.intro hKe hb))
                obtain ⟨QA, eQA⟩ : ∃ QA, (Q j).a = QA := ⟨_, rfl⟩
                obtain ⟨QN, eQN⟩ : ∃ QN, (Q j).n = QN := ⟨_, rfl⟩
                obtain ⟨QC, eQC⟩ : ∃ QC, (Q j).c = QC := ⟨_, rfl⟩
                rw [eQA, eQN, eQC] at k16 cx7
                obtain ⟨S2, eS2⟩ : ∃ S2, relS s' (P j) = S2 := ⟨_, rfl⟩
                rw [eS2] at k16 HR
                have hj' : (j : Int) < (q : Int) := by omega
                have e00 : ((0 : Int) != 0) = false := rfl
                clear hF hp hKe hb hrow e0 hF2 hpl eQA eQN eQC eS2
                go_wp2_with (first | (go_at_call 16; refine k16.mono ?_; rintro e W3 ⟨rfl, hp3, ho3⟩; have H3 := hidden_ (And.intro hp3 ho3); clear hp3 ho3 k16))
                go_roundw
                case rel => exact ⟨j + 1, by omega, by go_num, ⟨S2, HR.out.1, H3.out.1⟩, HR.out.2.1.off H3.out.2 rfl rfl rfl, HR.out.2.2.trans (H3.out.2.below HR.out.2.2.size)⟩
                case measure => simp [intOf]; omega
              · have e : j = q := by omega
                subst e
                have k24 := sizes_call hp (by rw [hF.n]; omega)
                rw [hF.n, hF.all] at k24
                have HB := hidden_ hb
                obtain ⟨AS, eAS⟩ : ∃ AS, s'.aside = AS := ⟨_, rfl⟩
                rw [eAS] at k24
                clear hF hp hKe hb eAS
                go_wp2_with (first | (go_at_call 24; refine k24.mono ?_; rintro e W3 ⟨rfl, m3, h3⟩; have H3 := hidden_ h3; clear h3 k24))
                go_ret
                exact ⟨by simp, below_drew HB.out ⟨m3, H3.out⟩⟩
      · go_wp2
        go_loopw [15] (fun i wr => ∃ q : Nat, q ≤ K ∧ i = .int .i64 q ∧ Kept w.heap.size w wr (.slice a7 K c7) (.slice a8 K c8) K P Wt Q Y ∧ PoolAt w.heap.size wr b g s ∧ Below w.heap.size w wr) (fun i _ => K - (intOf i).toNat)
        case atStart => exact ⟨0, Nat.zero_le _, rfl, HS.out.2.1, HS.out.2.2.1, HS.out.2.2.2⟩
        case round =>
          obtain ⟨q, hq, rfl, hKe, hp, hb⟩ := hrel
          by_cases hlt2 : q < K
          · have hPl := HS.out.1
            obtain ⟨x7, e7, cx7⟩ := own_cell hKe.own7 (sls_at Q K q hlt2)
            obtain ⟨x8, e8, cx8⟩ := own_cell hKe.own8 (sls_at Y K q hlt2)
            subst e7 e8
            have hli := hPl.lies q hlt2
            have hrow := hKe.row q hlt2
            have hin := hKe.inn q hlt2
            obtain ⟨f1, f2⟩ := hli.fetch (by decide) (hPl.wf q hlt2)
            have hpl : (P q).length ≤ 256 := by
              have h1 := hPl.free
              have h2 := sumL_le P q K hlt2
              omega
            have k13 := fetched_call (hp.drewN 1) hPl.good (Q q).a (Q q).n (Q q).c (P q) (hrow.reads.drewN 1) (by rw [← hrow.len]; omega) hrow.lt ((Wt q).length : Int) (by omega) (by have := hin.max; rw [hin.len]; omega)
            rw [f1, f2, hin.len] at k13
            have k15 := fun (W : World) (a2 : Option Addr) (l2 c2 : Nat) (r : Reads .i8 W a2 l2 (Wt q)) (r2 : Reads .i8 W (Y q).a (Y q).n (Wt q)) => same_bytes a2 l2 c2 (Wt q) (Y q).a (Y q).n (Y q).c W r r2
            have hwmax := hin.max
            have HR := hidden_ (And.intro hKe (And.intro hb (And.intro hin cx8)))
            have hq' : (q : Int) < (K : Int) := by omega
            have HC : Hid (∀ W3 : World, Below wr.heap.size wr W3 → W3.cell? (x7.add q) = some (.slice (Q q).a (Q q).n (Q q).c) ∧ W3.cell? (x8.add q) = some (.slice (Y q).a (Y q).n (Y q).c)) := fun W3 o => ⟨(o.cell (World.block_lt_of_cell? _ _ cx7)).trans cx7, (o.cell (World.block_lt_of_cell? _ _ cx8)).trans cx8⟩
            have d7 : wr.drew.cell? (x7.add q) = some (.slice (Q q).a (Q q).n (Q q).c) ∧ wr.drew.cell? (x8.add q) = some (.slice (Y q).a (Y q).n (Y q).c) := ⟨cx7, cx8⟩
            have K15 := hidden_ k15
            have e00 : ((0 : Int) != 0) = false := rfl
            clear hKe hp hb hli hrow hin f1 f2 hPl k15 cx7 cx8 hpl
            obtain ⟨QA, eQA⟩ : ∃ QA, (Q q).a = QA := ⟨_, rfl⟩
            obtain ⟨QN, eQN⟩ : ∃ QN, (Q q).n = QN := ⟨_, rfl⟩
            obtain ⟨QC, eQC⟩ : ∃ QC, (Q q).c = QC := ⟨_, rfl⟩
            obtain ⟨YA, eYA⟩ : ∃ YA, (Y q).a = YA := ⟨_, rfl⟩
            obtain ⟨YN, eYN⟩ : ∃ YN, (Y q).n = YN := ⟨_, rfl⟩
            obtain ⟨YC, eYC⟩ : ∃ YC, (Y q).c = YC := ⟨_, rfl⟩
            simp only [eQA, eQN, eQC, eYA, eYN, eYC] at k13 HC d7 K15
            rw [eYN] at hwmax
            rw [eYA, eYN] at HR
            obtain ⟨d7, d8⟩ := d7
            clear eQA eQN eQC eYA eYN eYC
            go_wp2
            go_region_held3 (fun W => W.cell? (x7.add q) = some (.slice QA QN QC) ∧ W.cell? (x8.add q) = some (.slice YA YN YC)) (first | assumption | (exact ⟨d7, d8⟩) | exact d78) (first
              | (go_at_call 13; refine k13.mono ?_; rintro e W3 ⟨a2, l2, c2, rfl, hr2, hp2, hb2⟩; have hb2' : Below wr.heap.size wr W3 := ⟨hb2.os, hb2.tape, hb2.output, hb2.size, hb2.block⟩; have d78 := HC.out W3 hb2'; have k15 := K15.out W3 a2 l2 c2 hr2.reads (HR.out.2.2.1.below (below_then HR.out.2.1 hb2')); have H3 := hidden_ (And.intro hp2 hb2'); clear hr2 hp2 hb2 hb2'))
            obtain ⟨f7, f8⟩ := HC.out W3 H3.out.2
            clear k13 K15
            go_wp2_with (first
              | (go_at_call 15; refine k15.mono ?_; rintro e W5 ⟨rfl, m5, h5⟩; have H5 := hidden_ h5; clear h5 k15))
            go_roundw
            case rel =>
              have hb5 : Below wr.heap.size wr W5 := below_drew H3.out.2 ⟨m5, H5.out⟩
              exact ⟨q + 1, by omega, by go_num, HR.out.1.below hb5, by rw [H5.out]; exact H3.out.1.drewN m5, below_then HR.out.2.1 hb5⟩
            case measure => simp [intOf]; omega
          · have e : q = K := by omega
            subst e
            have HT := hidden_ (And.intro HS.out.1.freed (And.intro hKe (And.intro hp hb)))
            clear hKe hp hb HS
            go_wp2
            go_loopw [18] (fun i wr => ∃ j : Nat, j ≤ q ∧ i = .int .i64 j ∧ (∃ s', Freed N q j s' P Wt ∧ PoolAt w.heap.size wr b g s') ∧ Kept w.heap.size w wr (.slice a7 q c7) (.slice a8 q c8) q P Wt Q Y ∧ Below w.heap.size w wr) (fun i _ => q - (intOf i).toNat)
            case atStart => exact ⟨0, Nat.zero_le _, rfl, ⟨s, HT.out.1, HT.out.2.2.1⟩, HT.out.2.1, HT.out.2.2.2⟩
            case round =>
              clear HT
              obtain ⟨j, hj, rfl, ⟨s', hF, hp⟩, hKe, hb⟩ := hrel
              by_cases hlt3 : j < q
              · obtain ⟨x7, e7, cx7⟩ := own_cell hKe.own7 (sls_at Q q j hlt3)
                subst e7
                have hrow := hKe.row j hlt3
                obtain ⟨e0, hF2⟩ := hF.step hlt3
                have hpl : (P j).length ≤ 256 := by
                  have h1 := hF.free
                  have h2 := sumL_le P j q hlt3
                  have h3 := freeTo_le s'.pg N
                  have h4 := (hF.lies j (Nat.le_refl _) hlt3).own
                  have h5 := pages_few h4
                  rw [hF.n] at h5
                  omega
                have k16 := release_call hp hF.good (by decide) (Q j).a (Q j).n (Q j).c (P j) (fun w' o => (hrow.off o rfl).reads) (by rw [← hrow.len]; omega)
                rw [e0] at k16
                have HR := hidden_ (And.intro hF2 (And.intro hKe hb))
                obtain ⟨QA, eQA⟩ : ∃ QA, (Q j).a = QA := ⟨_, rfl⟩
                obtain ⟨QN, eQN⟩ : ∃ QN, (Q j).n = QN := ⟨_, rfl⟩
                obtain ⟨QC, eQC⟩ : ∃ QC, (Q j).c = QC := ⟨_, rfl⟩
                rw [eQA, eQN, eQC] at k16 cx7
                obtain ⟨S2, eS2⟩ : ∃ S2, relS s' (P j) = S2 := ⟨_, rfl⟩
                rw [eS2] at k16 HR
                have hj' : (j : Int) < (q : Int) := by omega
                have e00 : ((0 : Int) != 0) = false := rfl
                clear hF hp hKe hb hrow e0 hF2 hpl eQA eQN eQC eS2
                go_wp2_with (first | (go_at_call 16; refine k16.mono ?_; rintro e W3 ⟨rfl, hp3, ho3⟩; have H3 := hidden_ (And.intro hp3 ho3); clear hp3 ho3 k16))
                go_roundw
                case rel => exact ⟨j + 1, by omega, by go_num, ⟨S2, HR.out.1, H3.out.1⟩, HR.out.2.1.off H3.out.2 rfl rfl rfl, HR.out.2.2.trans (H3.out.2.below HR.out.2.2.size)⟩
                case measure => simp [intOf]; omega
              · have e : j = q := by omega
                subst e
                have k24 := sizes_call hp (by rw [hF.n]; omega)
                rw [hF.n, hF.all] at k24
                have HB := hidden_ hb
                obtain ⟨AS, eAS⟩ : ∃ AS, s'.aside = AS := ⟨_, rfl⟩
                rw [eAS] at k24
                clear hF hp hKe hb eAS
                go_wp2_with (first | (go_at_call 24; refine k24.mono ?_; rintro e W3 ⟨rfl, m3, h3⟩; have H3 := hidden_ h3; clear h3 k24))
                go_ret
                exact ⟨by simp, below_drew HB.out ⟨m3, H3.out⟩⟩

theorem contract (H : Type) (enc : TypeId × Value → H) (W : World) (base : Nat) (args : Array Value) (ds gs : List (DataW H)) (before : List MemPlace)
    (hval0 : ∀ (j : Nat) t v, Try.f4.params[j]? = some t → args[j]? = some v → Value.okWide Try.prog W .any base t v)
    (hW : DataW.Whole enc Try.prog Try.f4.params.toList Rows.pagedBackSpec.vars false W args.toList ds gs before) :
    Calls Try.prog 4 args W fun e W' => ∃ v, e = .returned v ∧ Rows.pagedBackSpec.post enc Try.prog Try.f4 false true false false W args v W' := by
  have hval : ∀ (j : Nat) t v, Try.f4.params[j]? = some t → args[j]? = some v → Value.okWide Try.prog W .any base t v := hval0
  have hW' := hW
  obtain ⟨p, q, hA0, hV, rfl, hfz, hnd⟩ := hW
  have hA : DataW.TrodAll enc Try.prog W 0 (fun _ => true) true Try.f4.params.toList args.toList ds p := hA0
  rw [Try.params4] at hA hval
  obtain ⟨v0, vs0, d0, ds0, p0, q0, hargs, rfl, rfl, h0, r0⟩ := trodAll_cons hA
  obtain ⟨v1, vs1, d1, ds1, p1, q1, rfl, rfl, rfl, h1, r1⟩ := trodAll_cons r0
  obtain ⟨rfl, rfl, rfl⟩ := trodAll_nil r1
  obtain rfl : args = #[v0, v1] := by cases args; simp_all
  obtain ⟨rfl, rfl⟩ := trodVars_none hV
  obtain ⟨a0, rfl, rfl, rfl, w0⟩ := open_int Try.underlying3 (hval 0 3 v0 rfl rfl) h0
  obtain ⟨a1, n1, c1, rfl⟩ := okWide_slice Try.underlying50 (hval 1 50 v1 rfl rfl)
  have k1 := h1
  have lt1 : ∀ x ∈ p1, x.block < W.heap.size := by obtain ⟨m, hm⟩ := k1; exact DataW.trod_lt m _ _ _ hm
  obtain ⟨A1, C1, R1, w1, e1, l1⟩ := open_gridB h1
  clear hA0 hval0
  refine (walk a0 a1 n1 c1 A1 C1 R1 W w0 w1 e1 l1).mono fun e W' ⟨he, bel⟩ => ?_
  subst he
  exact ⟨_, rfl, _, _, _, [], _, [], hW', trodAll_mk1 (shut_bool Try.underlying4 _), (trodAll_cons_mk (shut_int Try.underlying3 w0) (trodAll_cons_mk (Below.trod laidOut (by kernel_rfl) (of_decide_eq_true (by kernel_rfl)) k1 bel lt1) trodAll_mk0)), rfl, bel.frame _, fun h => by cases h⟩

set_option maxRecDepth 100000 in
theorem lifted (os : Os) (started : os.Started) (H : Type) (enc : TypeId × Value → H) :
    ReturnsInHanded {} Try.checked os 4 .any (Rows.pagedBackSpec.pre6 enc Try.prog Try.f4 Rows.pagedBackRow.domain false) (Rows.pagedBackSpec.post enc Try.prog Try.f4 false true false false) := by
  refine returnsInHanded_of_change (C := Try.checked) own started (by kernel_rfl) Try.func4
    (ChangeSpec.witness6 (enc := enc) (C := Try.checked) false ⟨#[], #[.int .i64 0, .slice none 0 0], []⟩ 8 (by kernel_rfl) (by kernel_rfl) (by kernel_rfl) (by kernel_rfl)) ?_
  intro W base args ds gs before hval hW _ _
  exact contract H enc W base args ds gs before hval hW

theorem over : Rows.pagedBackRow.holds Try.pinned (OpenSpec.ofChange Rows.pagedBackSpec) :=
  OpenClaim.holds_of_wide 4 Try.f4 rfl rfl rfl rfl rfl rfl rfl ⟨rfl, rfl, rfl, rfl, rfl⟩ rfl rfl rfl rfl rfl (by kernel_rfl) Try.func4 (by kernel_rfl)
    (of_decide_eq_true (by kernel_rfl)) (by unfold Func.isWrapper; first | (rw [if_pos (by decide +kernel)]; kernel_rfl) | (rw [if_neg (by decide +kernel)]; exact ⟨rfl, rfl⟩))
    (fun os started H enc _ => lifted os started H enc)

theorem proved : Rows.PagedBackSaid :=
  over
#print axioms proved
end Go.Proofs.Ytjbocoheognneaa.pagedBack
