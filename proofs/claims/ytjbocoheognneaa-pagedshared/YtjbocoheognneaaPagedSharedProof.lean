/- For every row of weights (of one to a thousand; of any other nothing is asked but that the examples come out): placed pages that were given a second owner are released and still hold the weights, are free when they are released again, and a list that names one of them more often than it has owners releases none. -/
import Derived.Test.YtjbocoheognneaaRows
import Derived.Test.YtjbocoheognneaaPages
import Derived.Test.YtjbocoheognneaaView
import Derived.Test.YtjbocoheognneaaOwn
import Derived.Test.YtjbocoheognneaaSame
import Derived.Test.YtjbocoheognneaaWorks
import Derived.Test.YtjbocoheognneaaReadsP
import Derived.Test.YtjbocoheognneaaReadsQ
import Derived.Test.YtjbocoheognneaaCount
import Derived.Test.YtjbocoheognneaaLeast
import Derived.Test.YtjbocoheognneaaLays
import Derived.Test.YtjbocoheognneaaTurns
import Derived.Test.YtjbocoheognneaaNews
import Derived.Test.YtjbocoheognneaaGoods
import Derived.Test.YtjbocoheognneaaPlain
import Derived.Test.YtjbocoheognneaaNeeds
import Derived.Test.YtjbocoheognneaaPlace
import Derived.Test.YtjbocoheognneaaPlaces
import Derived.Test.YtjbocoheognneaaFetch
import Derived.Test.YtjbocoheognneaaFetches
import Derived.Test.YtjbocoheognneaaFetched
import Derived.Test.YtjbocoheognneaaRelease
import Derived.Test.YtjbocoheognneaaRefRel
import Derived.Test.YtjbocoheognneaaLies
import Derived.Test.YtjbocoheognneaaWorks12
import Derived.Test.YtjbocoheognneaaInvIn
import Derived.Test.YtjbocoheognneaaPutReg
import Derived.Test.YtjbocoheognneaaTwice
import Derived.Test.YtjbocoheognneaaShares
import Derived.WalkKit
import Derived.ProofKit
import Derived.OpenShut
import Derived.ChangeOld
import Derived.Below
import Derived.WalkLawsBesides
import Derived.ChangeMaps5
import Derived.Deep.QuietTactic
import Derived.BigQuiet
import Derived.OwnWalk
import Derived.Deep.RegionHeld3
import Derived.RangeFuncBox
namespace Go.Proofs.Ytjbocoheognneaa.pagedShared
open Go.ChangeShapes Go.WideShapes Go.ChangeAt Go.RowKit
set_option linter.unusedVariables false
set_option linter.unusedSimpArgs false

theorem own : ownKnob Try.prog.godebug = none := by kernel_rfl
theorem laidOut : laidOutB Try.prog = true := by kernel_rfl

theorem off_reads {B : Nat} {w w1 w' : World} {k : IntKind} {a : Option Addr} {n : Nat} {zs : List Int} {T : TypeId → Bool} (h : Reads k w a n zs) (hb : Below w.heap.size w w1) (o : Off w.heap.size T w1 w') : Reads k w' a n zs := h.below (hb.trans (o.below hb.size))
theorem shares_snoc (s : Pl) (P : List Int) (k : Nat) (h : k < P.length) : (P.take (k + 1)).foldl shS s = shS ((P.take k).foldl shS s) (P.getD k 0) := by
  rw [take_snoc P k h, List.foldl_append]
  rfl
theorem take_len_le (P : List Int) (k : Nat) : (P.take k).length ≤ P.length := by rw [List.length_take]; omega


set_option maxHeartbeats 4000000 in
set_option maxRecDepth 20000 in
theorem walk (a0 : Option Addr) (n0 c0 : Nat) (z0 : List Int) (w : World) (w0 : Reads .i8 w a0 n0 z0) (e0 : a0 = none → c0 = 0) (l0 : n0 ≤ c0) :
    Calls Try.prog 5 #[.slice a0 n0 c0] w fun e w' => e = .returned (.bool true) ∧ Below w.heap.size w w' := by
  have k23 := works_call w
  have hm0 := w0.max
  have hlen := w0.len
  by_cases h0 : n0 = 0
  · subst h0
    go_enter Try.func5, Try.ntmps5
    go_wp2_with (first | (go_at_call 23; refine k23.mono ?_; rintro e W1 ⟨rfl, hb'⟩; clear k23; have hb := hidden_ hb'; clear hb'))
    go_ret
    exact ⟨rfl, hb.out⟩
  by_cases h1 : 1000 < n0
  · have h0' : ((n0 : Int) == 0) = false := by simp; omega
    have h1' : (1000 : Int) < (n0 : Int) := by omega
    go_enter Try.func5, Try.ntmps5
    go_wp2_with (first | (go_at_call 23; refine k23.mono ?_; rintro e W1 ⟨rfl, hb'⟩; clear k23; have hb := hidden_ hb'; clear hb'))
    go_ret
    exact ⟨rfl, hb.out⟩
  have h0' : ((n0 : Int) == 0) = false := by simp; omega
  have h1' : ¬ (1000 : Int) < (n0 : Int) := by omega
  obtain ⟨P, S1, S2, S3, S4, st⟩ := story z0 w0.wf_mem (by omega) (by omega)
  have hPl := st.len
  rw [hlen] at hPl
  have HPl := hidden_ hPl
  clear hPl
  have k6 := fun (W : World) => (show Calls Try.prog 6 #[.int .i64 40] W _ from new_call 40 (by decide) (by decide) W)
  have hG0 := good_new 40 5 (by decide) (by decide)
  have k10 := fun (W : World) (b g : Nat) (q : PoolAt w.heap.size W b g (newPl 40)) (hb : Below w.heap.size w W) => placed_call q hG0 (by decide) tM a0 n0 c0 z0 (fun w' o => off_reads (B := 0) w0 hb o)
  simp only [st.place.1, st.place.2.1, st.place.2.2] at k10
  unfold tM at k10
  have K10 := hidden_ k10
  have HR := hidden_ w0
  have ST := hidden_ st
  clear k10 st hG0
  go_enter Try.func5, Try.ntmps5
  go_wp2_with (first
    | (go_at_call 23; refine k23.mono ?_; rintro e W1 ⟨rfl, hb'⟩; clear k23; have hb := hidden_ hb'; clear hb')
    | (go_at_call 6; refine (k6 _).mono ?_; rintro e W2 ⟨rfl, hp', hbl⟩; clear k6; have hp := hidden_ (hp' _ hb.out.size); replace hb := hidden_ (below_then hb.out hbl); have k10 := K10.out W2 _ _ hp.out hb.out; clear hp' hbl)
    | (go_at_call 10; refine k10.mono ?_; rintro e W3 ⟨a1, l1, p1, rfl, hr1, hp1, ho1⟩; clear k10; have hl1 := hidden_ (hr1.len.symm.trans HPl.out); have hl1' : ((l1 : Int) == 0) = false := (by have := hl1.out; simp; omega); have HT := hidden_ (And.intro (hr1.mono hb.out.size) (And.intro hp1 (hb.out.trans (ho1.below hb.out.size)))); clear hr1 hp1 ho1))
  have hl1r := HT.out.1.len
  obtain ⟨x, rfl⟩ := HT.out.1.reads.some_ (by have := hl1.out; omega)
  obtain ⟨b, eb⟩ : ∃ b, W1.heap.size + 1 = b := ⟨_, rfl⟩
  obtain ⟨g, eg⟩ : ∃ g, W1.heap.size = g := ⟨_, rfl⟩
  rw [eb, eg] at HT
  rw [eb]
  have lb0 : 1 ≤ l1 := by have := hl1.out; omega
  have lb1 : l1 ≤ 40 := by have := hl1.out; omega
  have HQ := hidden_ (And.intro hl1r (And.intro hlen (And.intro h0 h1)))
  clear eb eg hp hb K10 hl1 hl1r hl1' hlen h0' h1' h0 h1
  go_loopw [7] (fun i wr => ∃ k : Nat, k ≤ l1 ∧ i = .int .i64 k ∧ PoolAt w.heap.size wr b g ((P.take k).foldl shS S1) ∧ RowI w.heap.size wr (some x) l1 p1 P ∧ Below w.heap.size w wr) (fun i _ => l1 - (intOf i).toNat)
  case atStart => exact ⟨0, Nat.zero_le _, rfl, HT.out.2.1, HT.out.1, HT.out.2.2⟩
  case round =>
    clear HT
    obtain ⟨k, hk, rfl, hp, hrow, hb⟩ := hrel
    by_cases hlt : k < l1
    · have cx := hrow.reads.cell x rfl k hlt
      have hG := (Good.shares (P.take k) ST.out.g1)
      have kS := share_call hp hG (by have := take_len_le P k; rw [HQ.out.1] at this; omega) (P.getD k 0)
      rw [← shares_snoc S1 P k (by rw [HQ.out.1]; exact hlt)] at kS
      obtain ⟨Z, eZ⟩ : ∃ Z, P.getD k 0 = Z := ⟨_, rfl⟩
      rw [eZ] at cx kS
      obtain ⟨E, eE⟩ : ∃ E, shE ((P.take k).foldl shS S1) Z = E := ⟨_, rfl⟩
      rw [eE] at kS
      obtain ⟨SS, eSS⟩ : ∃ SS, (P.take (k + 1)).foldl shS S1 = SS := ⟨_, rfl⟩
      rw [eSS] at kS
      have HS := hidden_ eSS
      have HO := hidden_ (And.intro hrow hb)
      have hk' : (k : Int) < (l1 : Int) := by omega
      clear eZ eE hp hrow hb eSS hG
      go_wp2_with (first | (go_at_call 18; refine kS.mono ?_; rintro e W4 ⟨rfl, hp4, ho4⟩; have H4 := hidden_ (And.intro hp4 ho4); clear hp4 ho4 kS))
      go_roundw
      case rel => exact ⟨k + 1, by omega, by go_num, by rw [HS.out]; exact H4.out.1, HO.out.1.off H4.out.2 rfl, HO.out.2.trans (H4.out.2.below HO.out.2.size)⟩
      case measure => simp [intOf]; omega
    · have e : k = l1 := by omega
      subst e
      have hl1r := HQ.out.1
      have hlen := HQ.out.2.1
      have h0 := HQ.out.2.2.1
      have h1 := HQ.out.2.2.2
      have htk : P.take k = P := by rw [← hl1r, List.take_length]
      rw [htk, ST.out.s2] at hp
      clear htk
      have HT := hidden_ (And.intro hp (And.intro hrow hb))
      clear hp hrow hb
      go_wp2
      refine twice_region P (P.getD 0 0) x k p1 (by kernel_rfl) rfl ⟨_, rfl, rfl, rfl, rfl, by kernel_rfl⟩ ⟨_, rfl, rfl, rfl, rfl, by kernel_rfl⟩ ⟨_, rfl, rfl, rfl, rfl, by kernel_rfl⟩ ⟨_, rfl, rfl, rfl, rfl, by kernel_rfl⟩ ⟨_, rfl, rfl, rfl, rfl, by kernel_rfl⟩ ⟨_, rfl, rfl, rfl, rfl, by kernel_rfl⟩ ⟨_, rfl, rfl, rfl, rfl, by kernel_rfl⟩ ⟨_, rfl, rfl, rfl, rfl, by kernel_rfl⟩ ⟨_, rfl, rfl, rfl, rfl, by kernel_rfl⟩ ⟨_, rfl, rfl, rfl, rfl, by kernel_rfl⟩ ⟨_, rfl, rfl, rfl, rfl, by kernel_rfl⟩ rfl hl1r (by omega) (by omega) (fun w' hb' i hi => (HT.out.2.1.reads.below hb').cell x rfl i hi) rfl rfl (Nat.le_of_ble_eq_true rfl) ?_
      intro a W5 hs hd hkp hb5 hown
      have ep := frame_puts [58, 59, 60, 61, 62, 63, 64, 65, 66, 67, 8] hs hd (fun s h => hkp s (fun i hi e => h (by
        rcases (show i = 0 ∨ i = 1 ∨ i = 2 ∨ i = 3 ∨ i = 4 ∨ i = 5 ∨ i = 6 ∨ i = 7 ∨ i = 8 ∨ i = 9 ∨ i = 10 by omega) with rfl | rfl | rfl | rfl | rfl | rfl | rfl | rfl | rfl | rfl | rfl <;> (simp only [twD, Option.some.injEq] at e; subst e; simp))))
      simp only [List.foldl] at ep
      obtain ⟨a8, c8, e8⟩ := own_form hown
      rw [e8] at hown ep
      have hr8 : RowI w.heap.size W5 a8 (P ++ P ++ [P.getD 0 0]).length c8 (P ++ P ++ [P.getD 0 0]) := RowI.mono ⟨rfl, hown, fun z hz => by
        rcases List.mem_append.1 hz with hz | hz
        · rcases List.mem_append.1 hz with hz | hz <;> exact HT.out.2.1.wf z hz
        · simp only [List.mem_singleton] at hz
          rw [hz]
          exact HT.out.2.1.wf _ (getD_mem (by omega))⟩ HT.out.2.2.size
      obtain ⟨L8, eL8⟩ : ∃ L8, (P ++ P ++ [P.getD 0 0]).length = L8 := ⟨_, rfl⟩
      rw [eL8] at hr8 ep
      have hL8 : L8 ≤ 1000 := by rw [← eL8]; simp; omega
      have hp5 := HT.out.1.below hb5
      have hrow5 := HT.out.2.1.below hb5
      have k16a := release_call hp5 ST.out.g2 (by decide) a8 L8 c8 _ (fun w' o => (hr8.off o rfl).reads) (by omega)
      rw [ST.out.twice.1, ST.out.twice.2] at k16a
      have H5 := hidden_ (And.intro hrow5 (below_then HT.out.2.2 hb5))
      have K16 := hidden_ (fun (W : World) (q : PoolAt w.heap.size W b g S2) (r : RowI w.heap.size W (some x) k p1 P) => release_call q ST.out.g2 (by decide) (some x) k p1 P (fun w' o => (r.off o rfl).reads) (by omega))
      have K16' := hidden_ (fun (W : World) (q : PoolAt w.heap.size W b g S3) (r : RowI w.heap.size W (some x) k p1 P) => release_call q ST.out.g3 (by decide) (some x) k p1 P (fun w' o => (r.off o rfl).reads) (by omega))
      have K16'' := hidden_ (fun (W : World) (q : PoolAt w.heap.size W b g S4) (r : RowI w.heap.size W (some x) k p1 P) => release_call q ST.out.g4 (by decide) (some x) k p1 P (fun w' o => (r.off o rfl).reads) (by omega))
      have K13 := hidden_ (fun (W : World) (q : PoolAt w.heap.size W b g S3) (r : RowI w.heap.size W (some x) k p1 P) => fetched_call q ST.out.g3 (some x) k p1 P r.reads (by omega) r.lt (n0 : Int) (by omega) (by omega))
      have K13' := hidden_ (fun (W : World) (q : PoolAt w.heap.size W b g S4) (r : RowI w.heap.size W (some x) k p1 P) => fetched_call q ST.out.g4 (some x) k p1 P r.reads (by omega) r.lt (n0 : Int) (by omega) (by omega))
      simp only [ST.out.once.1, ST.out.once.2] at K16
      simp only [ST.out.again.1, ST.out.again.2] at K16'
      simp only [ST.out.none_.1, ST.out.none_.2] at K16''
      have fe := ST.out.fetch
      have fg := ST.out.gone
      rw [hlen] at fe fg
      simp only [fe.1, fe.2] at K13
      simp only [fg] at K13'
      have K24 := hidden_ (fun (W : World) (q : PoolAt w.heap.size W b g S4) => sizes_call q (by rw [ST.out.n4]; decide))
      simp only [ST.out.n4, ST.out.free] at K24
      have e40 : ((40 : Nat) : Int) = 40 := rfl
      clear hs hd hkp hown hr8 hp5 hrow5 fe fg hb5 HT eL8 hL8 e8
      generalize a.tmps.getD 58 undef = g58 at ep
      generalize a.tmps.getD 59 undef = g59 at ep
      generalize a.tmps.getD 60 undef = g60 at ep
      generalize a.tmps.getD 61 undef = g61 at ep
      generalize a.tmps.getD 62 undef = g62 at ep
      generalize a.tmps.getD 63 undef = g63 at ep
      generalize a.tmps.getD 64 undef = g64 at ep
      generalize a.tmps.getD 65 undef = g65 at ep
      generalize a.tmps.getD 66 undef = g66 at ep
      generalize a.tmps.getD 67 undef = g67 at ep
      simp only [Act.put, List.setIfInBounds_toArray, List.set_cons_succ, List.set_cons_zero] at ep
      subst ep
      go_wp2_with (first
        | (go_at_call 16; refine k16a.mono ?_; rintro e W6 ⟨rfl, hp6, ho6⟩; clear k16a; have r6 := H5.out.1.off ho6 rfl; have k16b := K16.out W6 hp6 r6; have H6 := hidden_ (And.intro r6 (H5.out.2.trans (ho6.below H5.out.2.size))); clear hp6 ho6 r6)
        | (go_at_call 16; refine k16b.mono ?_; rintro e W7 ⟨rfl, hp7, ho7⟩; clear k16b; have r7 := H6.out.1.off ho7 rfl; have k13a := K13.out W7 hp7 r7; have H7 := hidden_ (And.intro r7 (H6.out.2.trans (ho7.below H6.out.2.size))); clear hp7 ho7 r7)
        | (go_at_call 13; refine k13a.mono ?_; rintro e W8 ⟨a9, l9, c9, rfl, hr9, hp8, hb8⟩; clear k13a; have r8 := H7.out.1.below hb8; have k16c := K16'.out W8 hp8 r8; have H8 := hidden_ (And.intro r8 (And.intro (below_then H7.out.2 hb8) (hr9.mono H7.out.2.size))); clear hp8 hb8 r8 hr9)
        | (go_at_call 16; refine k16c.mono ?_; rintro e W9 ⟨rfl, hp9, ho9⟩; clear k16c; have r9 := H8.out.1.off ho9 rfl; have k13b := K13'.out W9 hp9 r9; have H9 := hidden_ (And.intro r9 (And.intro (H8.out.2.1.trans (ho9.below H8.out.2.1.size)) (H8.out.2.2.off ho9 rfl))); clear hp9 ho9 r9)
        | (go_at_call 13; refine k13b.mono ?_; rintro e Wa ⟨ab, lb, cb, rfl, hrb, hpa, hba⟩; clear k13b; have k24 := K24.out Wa hpa; have Ha := hidden_ (And.intro (H9.out.1.below hba) (And.intro (below_then H9.out.2.1 hba) (And.intro (H9.out.2.2.below hba) hpa))); clear hpa hba hrb)
        | (go_at_call 24; refine k24.mono ?_; rintro e Wb ⟨rfl, mb, hwb⟩; clear k24; have bb : Below Wa.heap.size Wa Wb := below_drew (Below.refl _ _) ⟨mb, hwb⟩; have k15 := same_bytes a9 l9 c9 z0 a0 n0 c0 Wb (Ha.out.2.2.1.below bb).reads (HR.out.below (below_then Ha.out.2.1 bb)); have Hb := hidden_ (And.intro bb hwb); clear bb hwb)
        | (go_at_call 15; refine k15.mono ?_; rintro e Wc ⟨rfl, mc, hwc⟩; clear k15; have k16d := K16''.out Wc (by rw [hwc, Hb.out.2]; exact (Ha.out.2.2.2.drewN mb).drewN mc) ((Ha.out.1.below Hb.out.1).below (below_drew (Below.refl _ _) ⟨mc, hwc⟩)); have Hc := hidden_ (below_drew (below_then Ha.out.2.1 Hb.out.1) ⟨mc, hwc⟩); clear hwc)
        | (go_at_call 16; refine k16d.mono ?_; rintro e Wd ⟨rfl, hpd, hod⟩; clear k16d; have Hd := hidden_ (Hc.out.trans (hod.below Hc.out.size)); clear hpd hod))
      go_ret
      exact ⟨by simp, Hd.out⟩

theorem contract (H : Type) (enc : TypeId × Value → H) (W : World) (base : Nat) (args : Array Value) (ds gs : List (DataW H)) (before : List MemPlace)
    (hval0 : ∀ (j : Nat) t v, Try.f5.params[j]? = some t → args[j]? = some v → Value.okWide Try.prog W .any base t v)
    (hW : DataW.Whole enc Try.prog Try.f5.params.toList Rows.pagedSharedSpec.vars false W args.toList ds gs before) :
    Calls Try.prog 5 args W fun e W' => ∃ v, e = .returned v ∧ Rows.pagedSharedSpec.post enc Try.prog Try.f5 false true false false W args v W' := by
  have hval : ∀ (j : Nat) t v, Try.f5.params[j]? = some t → args[j]? = some v → Value.okWide Try.prog W .any base t v := hval0
  have hW' := hW
  obtain ⟨p, q, hA0, hV, rfl, hfz, hnd⟩ := hW
  have hA : DataW.TrodAll enc Try.prog W 0 (fun _ => true) true Try.f5.params.toList args.toList ds p := hA0
  rw [Try.params5] at hA hval
  obtain ⟨v0, vs0, d0, ds0, p0, q0, hargs, rfl, rfl, h0, r0⟩ := trodAll_cons hA
  obtain ⟨rfl, rfl, rfl⟩ := trodAll_nil r0
  obtain rfl : args = #[v0] := by cases args; simp_all
  obtain ⟨rfl, rfl⟩ := trodVars_none hV
  obtain ⟨a0, n0, c0, rfl⟩ := okWide_slice Try.underlying31 (hval 0 31 v0 rfl rfl)
  have k0 := h0
  have lt0 : ∀ x ∈ p0, x.block < W.heap.size := by obtain ⟨m, hm⟩ := k0; exact DataW.trod_lt m _ _ _ hm
  obtain ⟨z0, w0, e0, l0, s0⟩ : ∃ zs, Reads .i8 W a0 n0 zs ∧ (a0 = none → c0 = 0) ∧ n0 ≤ c0 ∧ (n0 = 0 ∨ ∃ el sp, d0 = .slice el sp ∧ n0 ≤ el.length + sp.length) := by
    obtain ⟨fuel, hf⟩ := h0
    rcases open_ints Try.underlying31 Try.underlying67 (by kernel_rfl) hf with ⟨hcs, hd⟩ | ⟨x, l, c, zs, hcs, _, hl, hm, hz, hd, hcell, hwz⟩
    · simp [Value.cells] at hcs
      obtain ⟨rfl, rfl, rfl⟩ := hcs
      exact ⟨[], Reads.nil _ _, fun _ => rfl, Nat.le_refl _, .inl rfl⟩
    · simp [Value.cells] at hcs
      obtain ⟨rfl, rfl, rfl⟩ := hcs
      exact ⟨_, Reads.of_open hl hm (by simpa using hz) hcell hwz, (fun h => by cases h), hl, .inr ⟨_, _, congrArg Prod.fst hd, open_length (by simpa using hz) hl⟩⟩
  clear hA0 hval0
  refine (walk a0 n0 c0 z0 W w0 e0 l0).mono fun e W' ⟨he, bel⟩ => ?_
  subst he
  exact ⟨_, rfl, _, _, _, [], _, [], hW', trodAll_mk1 (shut_bool Try.underlying4 _), (trodAll_cons_mk (Below.trod laidOut (by kernel_rfl) (of_decide_eq_true (by kernel_rfl)) k0 bel lt0) trodAll_mk0), rfl, bel.frame _, fun h => by cases h⟩

set_option maxRecDepth 100000 in
theorem lifted (os : Os) (started : os.Started) (H : Type) (enc : TypeId × Value → H) :
    ReturnsInHanded {} Try.checked os 5 .any (Rows.pagedSharedSpec.pre6 enc Try.prog Try.f5 Rows.pagedSharedRow.domain false) (Rows.pagedSharedSpec.post enc Try.prog Try.f5 false true false false) := by
  refine returnsInHanded_of_change (C := Try.checked) own started (by kernel_rfl) Try.func5
    (ChangeSpec.witness6 (enc := enc) (C := Try.checked) false ⟨#[], #[.slice none 0 0], []⟩ 8 (by kernel_rfl) (by kernel_rfl) (by kernel_rfl) (by kernel_rfl)) ?_
  intro W base args ds gs before hval hW _ _
  exact contract H enc W base args ds gs before hval hW

theorem over : Rows.pagedSharedRow.holds Try.pinned (OpenSpec.ofChange Rows.pagedSharedSpec) :=
  OpenClaim.holds_of_wide 5 Try.f5 rfl rfl rfl rfl rfl rfl rfl ⟨rfl, rfl, rfl, rfl, rfl⟩ rfl rfl rfl rfl rfl (by kernel_rfl) Try.func5 (by kernel_rfl)
    (of_decide_eq_true (by kernel_rfl)) (by unfold Func.isWrapper; first | (rw [if_pos (by decide +kernel)]; kernel_rfl) | (rw [if_neg (by decide +kernel)]; exact ⟨rfl, rfl⟩))
    (fun os started H enc _ => lifted os started H enc)

theorem proved : Rows.PagedSharedSaid :=
  over
#print axioms proved
end Go.Proofs.Ytjbocoheognneaa.pagedShared
