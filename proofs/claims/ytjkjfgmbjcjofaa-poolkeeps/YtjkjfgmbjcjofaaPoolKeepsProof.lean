/- For every number (its rest of 64, and one) of pages and every row of acts (its first hundred): behind each act free pages and those with owners are all, no more are laid aside than are free, a page has a tag just if it has owners; and what is laid aside at the end can be drawn; and the examples of works() hold. -/
import Derived.Test.YtjkjfgmbjcjofaaRows
import Derived.Test.YtjkjfgmbjcjofaaView
import Derived.Test.YtjkjfgmbjcjofaaOwn
import Derived.Test.YtjkjfgmbjcjofaaPages
import Derived.Test.YtjkjfgmbjcjofaaReadsP
import Derived.Test.YtjkjfgmbjcjofaaReadsQ
import Derived.Test.YtjkjfgmbjcjofaaLeast
import Derived.Test.YtjkjfgmbjcjofaaLays
import Derived.Test.YtjkjfgmbjcjofaaTurns
import Derived.Test.YtjkjfgmbjcjofaaNews
import Derived.Test.YtjkjfgmbjcjofaaGoods
import Derived.Test.YtjkjfgmbjcjofaaCount
import Derived.Test.YtjkjfgmbjcjofaaOpenOps
import Derived.Test.YtjkjfgmbjcjofaaAct
import Derived.Test.YtjkjfgmbjcjofaaWorks11
import Derived.Test.YtjkjfgmbjcjofaaOne
import Derived.WalkKit
import Derived.ProofKit
import Derived.OpenShut
import Derived.ChangeOld
import Derived.Below
import Derived.WalkLawsBesides
import Derived.ChangeMaps5
import Derived.Deep.QuietTactic
import Derived.BigQuiet
namespace Go.Proofs.Ytjkjfgmbjcjofaa.poolKeeps
open Go.ChangeShapes Go.WideShapes Go.ChangeAt Go.RowKit
set_option linter.unusedVariables false
set_option linter.unusedSimpArgs false

theorem own : ownKnob Try.prog.godebug = none := by kernel_rfl
theorem laidOut : laidOutB Try.prog = true := by kernel_rfl


def keepS (s : Pl) (o : OpV) : Pl := if o.k = 0 then takeS s o.t o.n else if o.k = 1 then resS s o.n else if o.k = 2 then unS s o.n else if o.k = 3 then drawS s o.t o.n else if o.k = 4 then shS s o.n else if o.k = 5 then drS s o.n else s

theorem tells_at {m : Nat} {s : Pl} (h : Good m s) (j : Nat) (hj : j < s.n) : owZ s j = (s.pg j).ow ∧ ((s.pg j).ow = 0 → (tagZ s j).toList.isEmpty = true) ∧ ((s.pg j).ow ≠ 0 → (tagZ s j).toList.isEmpty = false) := by
  by_cases e : (s.pg j).ow = 0
  · have hu : usedB s j = false := by
      simp only [usedB, decide_eq_false_iff_not]
      exact fun x => x.2.2 (by rw [Int.toNat_natCast]; exact e)
    refine ⟨?_, fun _ => ?_, fun x => absurd e x⟩
    · unfold owZ
      rw [if_neg (by rw [hu]; decide), e]
    · unfold tagZ
      rw [if_neg (by rw [hu]; decide)]
      simp [ByteArray.toList_eq]
  · have hu : usedB s j = true := by
      simp only [usedB, decide_eq_true_eq]
      exact ⟨by omega, by omega, by rw [Int.toNat_natCast]; exact e⟩
    refine ⟨?_, fun x => absurd x e, fun _ => ?_⟩
    · unfold owZ
      rw [if_pos hu, Int.toNat_natCast]
    · unfold tagZ
      rw [if_pos hu, Int.toNat_natCast]
      exact empty_false fun x => e ((h.tag j hj).1 x)

def tEnd : ByteArray := ⟨#[101, 110, 100]⟩
theorem tEnd_ne : ¬ tEnd.toList = [] := by simp [tEnd, ByteArray.toList_eq]

theorem draw_all {m : Nat} {s : Pl} (h : Good m s) : drawE s tEnd s.aside = 0 ∧ (drawS s tEnd s.aside).aside = 0 ∧ (drawS s tEnd s.aside).n = s.n := by
  have a0 := h.a0
  have e : drawE s tEnd s.aside = 0 := by
    unfold drawE
    rw [if_neg (fun x => x.elim tEnd_ne (by omega)), if_neg (by omega)]
  refine ⟨e, ?_, ?_⟩ <;> unfold drawS <;> rw [if_pos e]
  show s.aside - s.aside = 0
  omega

theorem act_n (s : Pl) (o : OpV) : (keepS s o).n = s.n := by
  unfold keepS takeS resS unS drawS shS drS
  repeat (first | rfl | split)
theorem takeS_n (s : Pl) (t : ByteArray) (k : Int) : (takeS s t k).n = s.n := by unfold takeS; split <;> rfl
theorem drawS_n (s : Pl) (t : ByteArray) (k : Int) : (drawS s t k).n = s.n := by unfold drawS; split <;> rfl
theorem resS_n (s : Pl) (k : Int) : (resS s k).n = s.n := by unfold resS; split <;> rfl
theorem unS_n (s : Pl) (k : Int) : (unS s k).n = s.n := by unfold unS; split <;> rfl
theorem shS_n (s : Pl) (k : Int) : (shS s k).n = s.n := by unfold shS; split <;> rfl
theorem drS_n (s : Pl) (k : Int) : (drS s k).n = s.n := by unfold drS; split <;> rfl

set_option maxHeartbeats 4000000 in
set_option maxRecDepth 20000 in
theorem walk (a0 : Int) (a1 : Option Addr) (n1 c1 : Nat) (O1 : Nat → OpV) (w : World) (w0 : (Lit.int .i64 a0).wf = true) (w1 : OpsAt w a1 n1 O1) (e1 : a1 = none → c1 = 0) (l1 : n1 ≤ c1) :
    Calls Try.prog 4 #[.int .i64 a0, .slice a1 n1 c1] w fun e w' => e = .returned (.bool true) ∧ Below w.heap.size w w' := by
  have hm1 := w1.max
  obtain ⟨M, hM, (eM : (IntKind.u64.wrap a0).tmod 64 = (M : Int)), (eM' : IntKind.u64.wrap a0 % 64 = (M : Int))⟩ := restN a0 64 (by decide)
  obtain ⟨N, eN⟩ : ∃ N : Nat, 1 + M = N := ⟨_, rfl⟩
  have eN' : (1 : Int) + (M : Int) = (N : Int) := by omega
  have hN : 1 ≤ N ∧ N ≤ 64 := by omega
  clear eN
  have k15 := works_call w
  have k7 := new_call N (by omega) (by omega)
  have hG0 := hidden_ (good_new N 5 (by omega) (by omega))
  have hops := hidden_ w1
  have hb := hidden_ (Below.refl w.heap.size w)
  clear w1
  go_enter Try.func4, Try.ntmps4
  go_wp2_with (first
    | (go_at_call 15; refine k15.mono ?_; rintro e W1 ⟨rfl, hb'⟩; clear k15; replace hb := hidden_ hb'; clear hb')
    | (go_at_call 7; refine (k7 _).mono ?_; rintro e W2 ⟨rfl, hp', hbl⟩; clear k7; have hp := hidden_ (hp' _ hb.out.size); replace hb := hidden_ (below_then hb.out hbl); clear hp' hbl))
  obtain ⟨b, eb⟩ : ∃ b, W1.heap.size + 1 = b := ⟨_, rfl⟩
  rw [eb] at hp ⊢
  clear eb
  obtain ⟨g, eg⟩ : ∃ g, W1.heap.size = g := ⟨_, rfl⟩
  rw [eg] at hp
  clear eg eM eM' eN'
  go_loopw [7] (fun i wr => ∃ k : Nat, k ≤ n1 ∧ k ≤ 100 ∧ i = .int .i64 k ∧ (∃ s, Good (k + 5) s ∧ s.n = N ∧ PoolAt w.heap.size wr b g s) ∧ Below w.heap.size w wr) (fun i _ => n1 - (intOf i).toNat)
  case atStart => exact ⟨0, Nat.zero_le _, Nat.zero_le _, rfl, ⟨_, hG0.out, rfl, hp.out⟩, hb.out⟩
  case round =>
    clear hp hb
    obtain ⟨k, hk, hk', rfl, ⟨s, hG, hsn, hp⟩, hb'⟩ := hrel
    by_cases hlt : k < n1 ∧ k < 100
    · obtain ⟨y1, y2⟩ := hlt
      have y1' : (k : Int) < (n1 : Int) := by omega
      have y2' : (k : Int) < 100 := by omega
      obtain ⟨x, rfl⟩ := hops.out.some_ (by omega)
      have cl := (hops.out.below hb').cell x rfl k y1
      obtain ⟨P, eP⟩ : ∃ P, x.add (k * 5) = P := ⟨_, rfl⟩
      rw [eP] at cl
      obtain ⟨d0, d1, d2, d3, d4⟩ := cl
      have d1' : wr.cell? ⟨P.block, P.off + 1, none⟩ = some (.string (O1 k).t) := d1
      have d2' : wr.cell? ⟨P.block, P.off + 2, none⟩ = some (.int .i64 (O1 k).n) := d2
      have d3' : wr.cell? ⟨P.block, P.off + 3, none⟩ = some (.int .i64 (O1 k).c) := d3
      have d4' : wr.cell? ⟨P.block, P.off + 4, none⟩ = some (.int .i64 (O1 k).v) := d4
      clear d1 d2 d3 d4
      obtain ⟨o, eo⟩ : ∃ o, O1 k = o := ⟨_, rfl⟩
      rw [eo] at d0 d1' d2' d3' d4'
      clear eo
      have hA := below_new (Below.refl wr.heap.size wr) (.cells (boxC o) 31)
      have hbx := BoxAt.new wr o
      have hq := hidden_ (And.intro (hp.below hA) (And.intro hbx (below_then hb' hA)))
      clear hp hA hbx hb'
      unfold boxC at hq
      obtain ⟨ok, ot, on, oc, ov⟩ := o
      simp only at d0 d1' d2' d3' d4' hq
      obtain ⟨A, eA⟩ : ∃ A, wr.alloc (.cells #[.int .i64 ok, .string ot, .int .i64 on, .int .i64 oc, .int .i64 ov] 31) = A := ⟨_, rfl⟩
      rw [eA] at hq
      have e0 := hq.out.2.1.c0
      have e1 := hq.out.2.1.c1
      have e2 := hq.out.2.1.c2
      simp only at e0 e1 e2
      by_cases h0 : ok = 0
      · subst h0
        have kA := take_call hq.out.1 hG ot on
        have hGS : Hid (Good (k + 5 + 1) (takeS s ot on) ∧ (takeS s ot on).n = N) := ⟨((hG.takeS (by omega) ot on).mono (Nat.le_succ _)), (takeS_n _ _ _).trans hsn⟩
        obtain ⟨S, eS⟩ : ∃ S, takeS s ot on = S := ⟨_, rfl⟩
        simp only [eS] at kA
        rw [eS] at hGS
        clear eS hG hsn
        obtain ⟨FZ, eFS⟩ : ∃ FZ, freeTo S.pg N = FZ := ⟨_, rfl⟩
        have EF := hidden_ eFS
        have kS := fun (W : World) (q : PoolAt w.heap.size W b g S) => sizes_call q hGS.out.1.n1
        have fl := freeTo_le S.pg N
        have a0 := hGS.out.1.a0
        have a1 := hGS.out.1.a1
        simp only [hGS.out.2, eFS] at kS a1
        rw [eFS] at fl
        obtain ⟨AS, eAS⟩ : ∃ AS, S.aside = AS := ⟨_, rfl⟩
        simp only [eAS] at kS a0 a1
        clear eFS eAS
        go_wp2_with (first
          | (go_at_call 16; refine kA.mono ?_; rintro e W3 ⟨x1, x2, x3, rfl, x4, hp', o'⟩; have hz := hidden_ (And.intro hp' (hq.out.2.2.trans (o'.below hq.out.2.2.size))); clear x4 o' hp' kA hq e1 e2)
          | (go_at_call 22; refine (kS _ hz.out.1).mono ?_; rintro e W4 ⟨rfl, m4, h4⟩; have hy : Hid (PoolAt w.heap.size W4 b g S ∧ Below w.heap.size w W4) := ⟨by rw [h4]; exact hz.out.1.drewN _, by rw [h4]; exact below_drew hz.out.2 ⟨_, rfl⟩⟩; clear hz h4 kS))
        clear d0 d1' d2' e0
        go_loopw [12, 13] (fun u i wr => ∃ j : Nat, j ≤ N ∧ i = .int .i64 j ∧ u = .int .i64 ((j : Int) - (freeTo S.pg j : Int)) ∧ wr = W4) (fun _ i _ => N - (intOf i).toNat)
        case atStart => exact ⟨0, Nat.zero_le _, rfl, rfl, rfl⟩
        case round =>
          obtain ⟨j, hj, rfl, rfl, hw⟩ := hrel
          subst hw
          have fj := freeTo_le S.pg j
          by_cases hjt : j < N
          · have hjt' : (j : Int) < (N : Int) := by omega
            obtain ⟨t1, t2, t3⟩ := tells_at hGS.out.1 j (by rw [hGS.out.2]; exact hjt)
            have k23 := owners_call hy.out.1 (by rw [hGS.out.2]; omega) (j : Int)
            have k24 := tag_call hy.out.1 (by rw [hGS.out.2]; omega) (j : Int)
            have ow0 := hGS.out.1.ow0 j (by rw [hGS.out.2]; exact hjt)
            rw [t1] at k23
            obtain ⟨T, eT⟩ : ∃ T, tagZ S j = T := ⟨_, rfl⟩
            rw [eT] at k24 t2 t3
            obtain ⟨O, eO⟩ : ∃ O, (S.pg j).ow = O := ⟨_, rfl⟩
            rw [eO] at k23 t2 t3 ow0
            by_cases hO : O = 0
            · have HF := hidden_ (show freeTo S.pg (j + 1) = freeTo S.pg j + 1 by simp only [freeTo]; rw [if_pos (by rw [eO]; exact hO)])
              have q := t2 hO
              obtain ⟨F, eF⟩ : ∃ F, freeTo S.pg j = F := ⟨_, rfl⟩
              rw [eF] at HF fj ⊢
              subst hO
              clear t1 t2 t3 eT eO eF
              obtain ⟨U, eU⟩ : ∃ U, (j : Int) - (F : Int) = U := ⟨_, rfl⟩
              have u0 : 0 ≤ U ∧ U ≤ 64 := by omega
              have HU := hidden_ eU
              rw [eU]
              clear eU
              go_wp2_with (first
                | (go_at_call 23; refine k23.mono ?_; rintro e W5 ⟨rfl, h5⟩; obtain rfl := h5.symm)
                | (go_at_call 24; refine k24.mono ?_; rintro e W5 ⟨rfl, h5⟩; obtain rfl := h5.symm))
              go_roundw
              case rel => exact ⟨j + 1, by omega, by go_num, by have := HU.out; rw [HF.out]; congr 1; omega, trivial⟩
              case measure => simp [intOf]; omega
            · have HF := hidden_ (show freeTo S.pg (j + 1) = freeTo S.pg j by simp only [freeTo]; rw [if_neg (by rw [eO]; exact hO)]; rfl)
              have q := t3 hO
              have hO' : 0 < O := by omega
              obtain ⟨F, eF⟩ : ∃ F, freeTo S.pg j = F := ⟨_, rfl⟩
              rw [eF] at HF fj ⊢
              clear t1 t2 t3 eT eO eF hO
              obtain ⟨U, eU⟩ : ∃ U, (j : Int) - (F : Int) = U := ⟨_, rfl⟩
              have u0 : 0 ≤ U ∧ U ≤ 64 := by omega
              have HU := hidden_ eU
              rw [eU]
              clear eU
              go_wp2_with (first
                | (go_at_call 23; refine k23.mono ?_; rintro e W5 ⟨rfl, h5⟩; obtain rfl := h5.symm)
                | (go_at_call 24; refine k24.mono ?_; rintro e W5 ⟨rfl, h5⟩; obtain rfl := h5.symm))
              go_roundw
              case rel => exact ⟨j + 1, by omega, by go_num, by have := HU.out; rw [HF.out]; congr 1; omega, trivial⟩
              case measure => simp [intOf]; omega
          · have e : j = N := by omega
            subst e
            have eq : freeTo S.pg j = FZ := EF.out
            rw [eq] at fj ⊢
            obtain ⟨U, eU⟩ : ∃ U, (j : Int) - (FZ : Int) = U := ⟨_, rfl⟩
            have u1 : (FZ : Int) + U = (j : Int) := by omega
            have u0 : 0 ≤ U ∧ U ≤ 64 := by omega
            rw [eU]
            clear eU eq
            go_wp2
            go_roundw
            case rel => exact ⟨k + 1, by omega, by omega, by go_num, ⟨S, by have := hGS.out.1; rw [show k + 1 + 5 = k + 5 + 1 by omega]; exact this, hGS.out.2, hy.out.1⟩, hy.out.2⟩
            case measure => simp [intOf]; omega
      · have g0 : (ok == 0) = false := by simp [h0]
        clear h0
        by_cases h1 : ok = 1
        · subst h1
          have kA := reserve_call hq.out.1 hG on
          have hGS : Hid (Good (k + 5 + 1) (resS s on) ∧ (resS s on).n = N) := ⟨((hG.resS on).mono (Nat.le_succ _)), (resS_n _ _).trans hsn⟩
          obtain ⟨S, eS⟩ : ∃ S, resS s on = S := ⟨_, rfl⟩
          simp only [eS] at kA
          rw [eS] at hGS
          clear eS hG hsn
          obtain ⟨FZ, eFS⟩ : ∃ FZ, freeTo S.pg N = FZ := ⟨_, rfl⟩
          have EF := hidden_ eFS
          have kS := fun (W : World) (q : PoolAt w.heap.size W b g S) => sizes_call q hGS.out.1.n1
          have fl := freeTo_le S.pg N
          have a0 := hGS.out.1.a0
          have a1 := hGS.out.1.a1
          simp only [hGS.out.2, eFS] at kS a1
          rw [eFS] at fl
          obtain ⟨AS, eAS⟩ : ∃ AS, S.aside = AS := ⟨_, rfl⟩
          simp only [eAS] at kS a0 a1
          clear eFS eAS
          go_wp2_with (first
            | (go_at_call 17; refine kA.mono ?_; rintro e W3 ⟨rfl, hp', o'⟩; have hz := hidden_ (And.intro hp' (hq.out.2.2.trans (o'.below hq.out.2.2.size))); clear  o' hp' kA hq e1 e2)
            | (go_at_call 22; refine (kS _ hz.out.1).mono ?_; rintro e W4 ⟨rfl, m4, h4⟩; have hy : Hid (PoolAt w.heap.size W4 b g S ∧ Below w.heap.size w W4) := ⟨by rw [h4]; exact hz.out.1.drewN _, by rw [h4]; exact below_drew hz.out.2 ⟨_, rfl⟩⟩; clear hz h4 kS))
          clear d0 d1' d2' e0
          go_loopw [12, 13] (fun u i wr => ∃ j : Nat, j ≤ N ∧ i = .int .i64 j ∧ u = .int .i64 ((j : Int) - (freeTo S.pg j : Int)) ∧ wr = W4) (fun _ i _ => N - (intOf i).toNat)
          case atStart => exact ⟨0, Nat.zero_le _, rfl, rfl, rfl⟩
          case round =>
            obtain ⟨j, hj, rfl, rfl, hw⟩ := hrel
            subst hw
            have fj := freeTo_le S.pg j
            by_cases hjt : j < N
            · have hjt' : (j : Int) < (N : Int) := by omega
              obtain ⟨t1, t2, t3⟩ := tells_at hGS.out.1 j (by rw [hGS.out.2]; exact hjt)
              have k23 := owners_call hy.out.1 (by rw [hGS.out.2]; omega) (j : Int)
              have k24 := tag_call hy.out.1 (by rw [hGS.out.2]; omega) (j : Int)
              have ow0 := hGS.out.1.ow0 j (by rw [hGS.out.2]; exact hjt)
              rw [t1] at k23
              obtain ⟨T, eT⟩ : ∃ T, tagZ S j = T := ⟨_, rfl⟩
              rw [eT] at k24 t2 t3
              obtain ⟨O, eO⟩ : ∃ O, (S.pg j).ow = O := ⟨_, rfl⟩
              rw [eO] at k23 t2 t3 ow0
              by_cases hO : O = 0
              · have HF := hidden_ (show freeTo S.pg (j + 1) = freeTo S.pg j + 1 by simp only [freeTo]; rw [if_pos (by rw [eO]; exact hO)])
                have q := t2 hO
                obtain ⟨F, eF⟩ : ∃ F, freeTo S.pg j = F := ⟨_, rfl⟩
                rw [eF] at HF fj ⊢
                subst hO
                clear t1 t2 t3 eT eO eF
                obtain ⟨U, eU⟩ : ∃ U, (j : Int) - (F : Int) = U := ⟨_, rfl⟩
                have u0 : 0 ≤ U ∧ U ≤ 64 := by omega
                have HU := hidden_ eU
                rw [eU]
                clear eU
                go_wp2_with (first
                  | (go_at_call 23; refine k23.mono ?_; rintro e W5 ⟨rfl, h5⟩; obtain rfl := h5.symm)
                  | (go_at_call 24; refine k24.mono ?_; rintro e W5 ⟨rfl, h5⟩; obtain rfl := h5.symm))
                go_roundw
                case rel => exact ⟨j + 1, by omega, by go_num, by have := HU.out; rw [HF.out]; congr 1; omega, trivial⟩
                case measure => simp [intOf]; omega
              · have HF := hidden_ (show freeTo S.pg (j + 1) = freeTo S.pg j by simp only [freeTo]; rw [if_neg (by rw [eO]; exact hO)]; rfl)
                have q := t3 hO
                have hO' : 0 < O := by omega
                obtain ⟨F, eF⟩ : ∃ F, freeTo S.pg j = F := ⟨_, rfl⟩
                rw [eF] at HF fj ⊢
                clear t1 t2 t3 eT eO eF hO
                obtain ⟨U, eU⟩ : ∃ U, (j : Int) - (F : Int) = U := ⟨_, rfl⟩
                have u0 : 0 ≤ U ∧ U ≤ 64 := by omega
                have HU := hidden_ eU
                rw [eU]
                clear eU
                go_wp2_with (first
                  | (go_at_call 23; refine k23.mono ?_; rintro e W5 ⟨rfl, h5⟩; obtain rfl := h5.symm)
                  | (go_at_call 24; refine k24.mono ?_; rintro e W5 ⟨rfl, h5⟩; obtain rfl := h5.symm))
                go_roundw
                case rel => exact ⟨j + 1, by omega, by go_num, by have := HU.out; rw [HF.out]; congr 1; omega, trivial⟩
                case measure => simp [intOf]; omega
            · have e : j = N := by omega
              subst e
              have eq : freeTo S.pg j = FZ := EF.out
              rw [eq] at fj ⊢
              obtain ⟨U, eU⟩ : ∃ U, (j : Int) - (FZ : Int) = U := ⟨_, rfl⟩
              have u1 : (FZ : Int) + U = (j : Int) := by omega
              have u0 : 0 ≤ U ∧ U ≤ 64 := by omega
              rw [eU]
              clear eU eq
              go_wp2
              go_roundw
              case rel => exact ⟨k + 1, by omega, by omega, by go_num, ⟨S, by have := hGS.out.1; rw [show k + 1 + 5 = k + 5 + 1 by omega]; exact this, hGS.out.2, hy.out.1⟩, hy.out.2⟩
              case measure => simp [intOf]; omega
        · have g1 : (ok == 1) = false := by simp [h1]
          clear h1
          by_cases h2 : ok = 2
          · subst h2
            have kA := unreserve_call hq.out.1 hG on
            have hGS : Hid (Good (k + 5 + 1) (unS s on) ∧ (unS s on).n = N) := ⟨((hG.unS on).mono (Nat.le_succ _)), (unS_n _ _).trans hsn⟩
            obtain ⟨S, eS⟩ : ∃ S, unS s on = S := ⟨_, rfl⟩
            simp only [eS] at kA
            rw [eS] at hGS
            clear eS hG hsn
            obtain ⟨FZ, eFS⟩ : ∃ FZ, freeTo S.pg N = FZ := ⟨_, rfl⟩
            have EF := hidden_ eFS
            have kS := fun (W : World) (q : PoolAt w.heap.size W b g S) => sizes_call q hGS.out.1.n1
            have fl := freeTo_le S.pg N
            have a0 := hGS.out.1.a0
            have a1 := hGS.out.1.a1
            simp only [hGS.out.2, eFS] at kS a1
            rw [eFS] at fl
            obtain ⟨AS, eAS⟩ : ∃ AS, S.aside = AS := ⟨_, rfl⟩
            simp only [eAS] at kS a0 a1
            clear eFS eAS
            go_wp2_with (first
              | (go_at_call 18; refine kA.mono ?_; rintro e W3 ⟨rfl, hp', o'⟩; have hz := hidden_ (And.intro hp' (hq.out.2.2.trans (o'.below hq.out.2.2.size))); clear  o' hp' kA hq e1 e2)
              | (go_at_call 22; refine (kS _ hz.out.1).mono ?_; rintro e W4 ⟨rfl, m4, h4⟩; have hy : Hid (PoolAt w.heap.size W4 b g S ∧ Below w.heap.size w W4) := ⟨by rw [h4]; exact hz.out.1.drewN _, by rw [h4]; exact below_drew hz.out.2 ⟨_, rfl⟩⟩; clear hz h4 kS))
            clear d0 d1' d2' e0
            go_loopw [12, 13] (fun u i wr => ∃ j : Nat, j ≤ N ∧ i = .int .i64 j ∧ u = .int .i64 ((j : Int) - (freeTo S.pg j : Int)) ∧ wr = W4) (fun _ i _ => N - (intOf i).toNat)
            case atStart => exact ⟨0, Nat.zero_le _, rfl, rfl, rfl⟩
            case round =>
              obtain ⟨j, hj, rfl, rfl, hw⟩ := hrel
              subst hw
              have fj := freeTo_le S.pg j
              by_cases hjt : j < N
              · have hjt' : (j : Int) < (N : Int) := by omega
                obtain ⟨t1, t2, t3⟩ := tells_at hGS.out.1 j (by rw [hGS.out.2]; exact hjt)
                have k23 := owners_call hy.out.1 (by rw [hGS.out.2]; omega) (j : Int)
                have k24 := tag_call hy.out.1 (by rw [hGS.out.2]; omega) (j : Int)
                have ow0 := hGS.out.1.ow0 j (by rw [hGS.out.2]; exact hjt)
                rw [t1] at k23
                obtain ⟨T, eT⟩ : ∃ T, tagZ S j = T := ⟨_, rfl⟩
                rw [eT] at k24 t2 t3
                obtain ⟨O, eO⟩ : ∃ O, (S.pg j).ow = O := ⟨_, rfl⟩
                rw [eO] at k23 t2 t3 ow0
                by_cases hO : O = 0
                · have HF := hidden_ (show freeTo S.pg (j + 1) = freeTo S.pg j + 1 by simp only [freeTo]; rw [if_pos (by rw [eO]; exact hO)])
                  have q := t2 hO
                  obtain ⟨F, eF⟩ : ∃ F, freeTo S.pg j = F := ⟨_, rfl⟩
                  rw [eF] at HF fj ⊢
                  subst hO
                  clear t1 t2 t3 eT eO eF
                  obtain ⟨U, eU⟩ : ∃ U, (j : Int) - (F : Int) = U := ⟨_, rfl⟩
                  have u0 : 0 ≤ U ∧ U ≤ 64 := by omega
                  have HU := hidden_ eU
                  rw [eU]
                  clear eU
                  go_wp2_with (first
                    | (go_at_call 23; refine k23.mono ?_; rintro e W5 ⟨rfl, h5⟩; obtain rfl := h5.symm)
                    | (go_at_call 24; refine k24.mono ?_; rintro e W5 ⟨rfl, h5⟩; obtain rfl := h5.symm))
                  go_roundw
                  case rel => exact ⟨j + 1, by omega, by go_num, by have := HU.out; rw [HF.out]; congr 1; omega, trivial⟩
                  case measure => simp [intOf]; omega
                · have HF := hidden_ (show freeTo S.pg (j + 1) = freeTo S.pg j by simp only [freeTo]; rw [if_neg (by rw [eO]; exact hO)]; rfl)
                  have q := t3 hO
                  have hO' : 0 < O := by omega
                  obtain ⟨F, eF⟩ : ∃ F, freeTo S.pg j = F := ⟨_, rfl⟩
                  rw [eF] at HF fj ⊢
                  clear t1 t2 t3 eT eO eF hO
                  obtain ⟨U, eU⟩ : ∃ U, (j : Int) - (F : Int) = U := ⟨_, rfl⟩
                  have u0 : 0 ≤ U ∧ U ≤ 64 := by omega
                  have HU := hidden_ eU
                  rw [eU]
                  clear eU
                  go_wp2_with (first
                    | (go_at_call 23; refine k23.mono ?_; rintro e W5 ⟨rfl, h5⟩; obtain rfl := h5.symm)
                    | (go_at_call 24; refine k24.mono ?_; rintro e W5 ⟨rfl, h5⟩; obtain rfl := h5.symm))
                  go_roundw
                  case rel => exact ⟨j + 1, by omega, by go_num, by have := HU.out; rw [HF.out]; congr 1; omega, trivial⟩
                  case measure => simp [intOf]; omega
              · have e : j = N := by omega
                subst e
                have eq : freeTo S.pg j = FZ := EF.out
                rw [eq] at fj ⊢
                obtain ⟨U, eU⟩ : ∃ U, (j : Int) - (FZ : Int) = U := ⟨_, rfl⟩
                have u1 : (FZ : Int) + U = (j : Int) := by omega
                have u0 : 0 ≤ U ∧ U ≤ 64 := by omega
                rw [eU]
                clear eU eq
                go_wp2
                go_roundw
                case rel => exact ⟨k + 1, by omega, by omega, by go_num, ⟨S, by have := hGS.out.1; rw [show k + 1 + 5 = k + 5 + 1 by omega]; exact this, hGS.out.2, hy.out.1⟩, hy.out.2⟩
                case measure => simp [intOf]; omega
          · have g2 : (ok == 2) = false := by simp [h2]
            clear h2
            by_cases h3 : ok = 3
            · subst h3
              have kA := draw_call hq.out.1 hG ot on
              have hGS : Hid (Good (k + 5 + 1) (drawS s ot on) ∧ (drawS s ot on).n = N) := ⟨((hG.drawS (by omega) ot on).mono (Nat.le_succ _)), (drawS_n _ _ _).trans hsn⟩
              obtain ⟨S, eS⟩ : ∃ S, drawS s ot on = S := ⟨_, rfl⟩
              simp only [eS] at kA
              rw [eS] at hGS
              clear eS hG hsn
              obtain ⟨FZ, eFS⟩ : ∃ FZ, freeTo S.pg N = FZ := ⟨_, rfl⟩
              have EF := hidden_ eFS
              have kS := fun (W : World) (q : PoolAt w.heap.size W b g S) => sizes_call q hGS.out.1.n1
              have fl := freeTo_le S.pg N
              have a0 := hGS.out.1.a0
              have a1 := hGS.out.1.a1
              simp only [hGS.out.2, eFS] at kS a1
              rw [eFS] at fl
              obtain ⟨AS, eAS⟩ : ∃ AS, S.aside = AS := ⟨_, rfl⟩
              simp only [eAS] at kS a0 a1
              clear eFS eAS
              go_wp2_with (first
                | (go_at_call 19; refine kA.mono ?_; rintro e W3 ⟨x1, x2, x3, rfl, x4, hp', o'⟩; have hz := hidden_ (And.intro hp' (hq.out.2.2.trans (o'.below hq.out.2.2.size))); clear x4 o' hp' kA hq e1 e2)
                | (go_at_call 22; refine (kS _ hz.out.1).mono ?_; rintro e W4 ⟨rfl, m4, h4⟩; have hy : Hid (PoolAt w.heap.size W4 b g S ∧ Below w.heap.size w W4) := ⟨by rw [h4]; exact hz.out.1.drewN _, by rw [h4]; exact below_drew hz.out.2 ⟨_, rfl⟩⟩; clear hz h4 kS))
              clear d0 d1' d2' e0
              go_loopw [12, 13] (fun u i wr => ∃ j : Nat, j ≤ N ∧ i = .int .i64 j ∧ u = .int .i64 ((j : Int) - (freeTo S.pg j : Int)) ∧ wr = W4) (fun _ i _ => N - (intOf i).toNat)
              case atStart => exact ⟨0, Nat.zero_le _, rfl, rfl, rfl⟩
              case round =>
                obtain ⟨j, hj, rfl, rfl, hw⟩ := hrel
                subst hw
                have fj := freeTo_le S.pg j
                by_cases hjt : j < N
                · have hjt' : (j : Int) < (N : Int) := by omega
                  obtain ⟨t1, t2, t3⟩ := tells_at hGS.out.1 j (by rw [hGS.out.2]; exact hjt)
                  have k23 := owners_call hy.out.1 (by rw [hGS.out.2]; omega) (j : Int)
                  have k24 := tag_call hy.out.1 (by rw [hGS.out.2]; omega) (j : Int)
                  have ow0 := hGS.out.1.ow0 j (by rw [hGS.out.2]; exact hjt)
                  rw [t1] at k23
                  obtain ⟨T, eT⟩ : ∃ T, tagZ S j = T := ⟨_, rfl⟩
                  rw [eT] at k24 t2 t3
                  obtain ⟨O, eO⟩ : ∃ O, (S.pg j).ow = O := ⟨_, rfl⟩
                  rw [eO] at k23 t2 t3 ow0
                  by_cases hO : O = 0
                  · have HF := hidden_ (show freeTo S.pg (j + 1) = freeTo S.pg j + 1 by simp only [freeTo]; rw [if_pos (by rw [eO]; exact hO)])
                    have q := t2 hO
                    obtain ⟨F, eF⟩ : ∃ F, freeTo S.pg j = F := ⟨_, rfl⟩
                    rw [eF] at HF fj ⊢
                    subst hO
                    clear t1 t2 t3 eT eO eF
                    obtain ⟨U, eU⟩ : ∃ U, (j : Int) - (F : Int) = U := ⟨_, rfl⟩
                    have u0 : 0 ≤ U ∧ U ≤ 64 := by omega
                    have HU := hidden_ eU
                    rw [eU]
                    clear eU
                    go_wp2_with (first
                      | (go_at_call 23; refine k23.mono ?_; rintro e W5 ⟨rfl, h5⟩; obtain rfl := h5.symm)
                      | (go_at_call 24; refine k24.mono ?_; rintro e W5 ⟨rfl, h5⟩; obtain rfl := h5.symm))
                    go_roundw
                    case rel => exact ⟨j + 1, by omega, by go_num, by have := HU.out; rw [HF.out]; congr 1; omega, trivial⟩
                    case measure => simp [intOf]; omega
                  · have HF := hidden_ (show freeTo S.pg (j + 1) = freeTo S.pg j by simp only [freeTo]; rw [if_neg (by rw [eO]; exact hO)]; rfl)
                    have q := t3 hO
                    have hO' : 0 < O := by omega
                    obtain ⟨F, eF⟩ : ∃ F, freeTo S.pg j = F := ⟨_, rfl⟩
                    rw [eF] at HF fj ⊢
                    clear t1 t2 t3 eT eO eF hO
                    obtain ⟨U, eU⟩ : ∃ U, (j : Int) - (F : Int) = U := ⟨_, rfl⟩
                    have u0 : 0 ≤ U ∧ U ≤ 64 := by omega
                    have HU := hidden_ eU
                    rw [eU]
                    clear eU
                    go_wp2_with (first
                      | (go_at_call 23; refine k23.mono ?_; rintro e W5 ⟨rfl, h5⟩; obtain rfl := h5.symm)
                      | (go_at_call 24; refine k24.mono ?_; rintro e W5 ⟨rfl, h5⟩; obtain rfl := h5.symm))
                    go_roundw
                    case rel => exact ⟨j + 1, by omega, by go_num, by have := HU.out; rw [HF.out]; congr 1; omega, trivial⟩
                    case measure => simp [intOf]; omega
                · have e : j = N := by omega
                  subst e
                  have eq : freeTo S.pg j = FZ := EF.out
                  rw [eq] at fj ⊢
                  obtain ⟨U, eU⟩ : ∃ U, (j : Int) - (FZ : Int) = U := ⟨_, rfl⟩
                  have u1 : (FZ : Int) + U = (j : Int) := by omega
                  have u0 : 0 ≤ U ∧ U ≤ 64 := by omega
                  rw [eU]
                  clear eU eq
                  go_wp2
                  go_roundw
                  case rel => exact ⟨k + 1, by omega, by omega, by go_num, ⟨S, by have := hGS.out.1; rw [show k + 1 + 5 = k + 5 + 1 by omega]; exact this, hGS.out.2, hy.out.1⟩, hy.out.2⟩
                  case measure => simp [intOf]; omega
            · have g3 : (ok == 3) = false := by simp [h3]
              clear h3
              by_cases h4 : ok = 4
              · subst h4
                have kA := share_call hq.out.1 hG (by omega) on
                have hGS : Hid (Good (k + 5 + 1) (shS s on) ∧ (shS s on).n = N) := ⟨(hG.shS on), (shS_n _ _).trans hsn⟩
                obtain ⟨S, eS⟩ : ∃ S, shS s on = S := ⟨_, rfl⟩
                simp only [eS] at kA
                rw [eS] at hGS
                clear eS hG hsn
                obtain ⟨FZ, eFS⟩ : ∃ FZ, freeTo S.pg N = FZ := ⟨_, rfl⟩
                have EF := hidden_ eFS
                have kS := fun (W : World) (q : PoolAt w.heap.size W b g S) => sizes_call q hGS.out.1.n1
                have fl := freeTo_le S.pg N
                have a0 := hGS.out.1.a0
                have a1 := hGS.out.1.a1
                simp only [hGS.out.2, eFS] at kS a1
                rw [eFS] at fl
                obtain ⟨AS, eAS⟩ : ∃ AS, S.aside = AS := ⟨_, rfl⟩
                simp only [eAS] at kS a0 a1
                clear eFS eAS
                go_wp2_with (first
                  | (go_at_call 20; refine kA.mono ?_; rintro e W3 ⟨rfl, hp', o'⟩; have hz := hidden_ (And.intro hp' (hq.out.2.2.trans (o'.below hq.out.2.2.size))); clear  o' hp' kA hq e1 e2)
                  | (go_at_call 22; refine (kS _ hz.out.1).mono ?_; rintro e W4 ⟨rfl, m4, h4⟩; have hy : Hid (PoolAt w.heap.size W4 b g S ∧ Below w.heap.size w W4) := ⟨by rw [h4]; exact hz.out.1.drewN _, by rw [h4]; exact below_drew hz.out.2 ⟨_, rfl⟩⟩; clear hz h4 kS))
                clear d0 d1' d2' e0
                go_loopw [12, 13] (fun u i wr => ∃ j : Nat, j ≤ N ∧ i = .int .i64 j ∧ u = .int .i64 ((j : Int) - (freeTo S.pg j : Int)) ∧ wr = W4) (fun _ i _ => N - (intOf i).toNat)
                case atStart => exact ⟨0, Nat.zero_le _, rfl, rfl, rfl⟩
                case round =>
                  obtain ⟨j, hj, rfl, rfl, hw⟩ := hrel
                  subst hw
                  have fj := freeTo_le S.pg j
                  by_cases hjt : j < N
                  · have hjt' : (j : Int) < (N : Int) := by omega
                    obtain ⟨t1, t2, t3⟩ := tells_at hGS.out.1 j (by rw [hGS.out.2]; exact hjt)
                    have k23 := owners_call hy.out.1 (by rw [hGS.out.2]; omega) (j : Int)
                    have k24 := tag_call hy.out.1 (by rw [hGS.out.2]; omega) (j : Int)
                    have ow0 := hGS.out.1.ow0 j (by rw [hGS.out.2]; exact hjt)
                    rw [t1] at k23
                    obtain ⟨T, eT⟩ : ∃ T, tagZ S j = T := ⟨_, rfl⟩
                    rw [eT] at k24 t2 t3
                    obtain ⟨O, eO⟩ : ∃ O, (S.pg j).ow = O := ⟨_, rfl⟩
                    rw [eO] at k23 t2 t3 ow0
                    by_cases hO : O = 0
                    · have HF := hidden_ (show freeTo S.pg (j + 1) = freeTo S.pg j + 1 by simp only [freeTo]; rw [if_pos (by rw [eO]; exact hO)])
                      have q := t2 hO
                      obtain ⟨F, eF⟩ : ∃ F, freeTo S.pg j = F := ⟨_, rfl⟩
                      rw [eF] at HF fj ⊢
                      subst hO
                      clear t1 t2 t3 eT eO eF
                      obtain ⟨U, eU⟩ : ∃ U, (j : Int) - (F : Int) = U := ⟨_, rfl⟩
                      have u0 : 0 ≤ U ∧ U ≤ 64 := by omega
                      have HU := hidden_ eU
                      rw [eU]
                      clear eU
                      go_wp2_with (first
                        | (go_at_call 23; refine k23.mono ?_; rintro e W5 ⟨rfl, h5⟩; obtain rfl := h5.symm)
                        | (go_at_call 24; refine k24.mono ?_; rintro e W5 ⟨rfl, h5⟩; obtain rfl := h5.symm))
                      go_roundw
                      case rel => exact ⟨j + 1, by omega, by go_num, by have := HU.out; rw [HF.out]; congr 1; omega, trivial⟩
                      case measure => simp [intOf]; omega
                    · have HF := hidden_ (show freeTo S.pg (j + 1) = freeTo S.pg j by simp only [freeTo]; rw [if_neg (by rw [eO]; exact hO)]; rfl)
                      have q := t3 hO
                      have hO' : 0 < O := by omega
                      obtain ⟨F, eF⟩ : ∃ F, freeTo S.pg j = F := ⟨_, rfl⟩
                      rw [eF] at HF fj ⊢
                      clear t1 t2 t3 eT eO eF hO
                      obtain ⟨U, eU⟩ : ∃ U, (j : Int) - (F : Int) = U := ⟨_, rfl⟩
                      have u0 : 0 ≤ U ∧ U ≤ 64 := by omega
                      have HU := hidden_ eU
                      rw [eU]
                      clear eU
                      go_wp2_with (first
                        | (go_at_call 23; refine k23.mono ?_; rintro e W5 ⟨rfl, h5⟩; obtain rfl := h5.symm)
                        | (go_at_call 24; refine k24.mono ?_; rintro e W5 ⟨rfl, h5⟩; obtain rfl := h5.symm))
                      go_roundw
                      case rel => exact ⟨j + 1, by omega, by go_num, by have := HU.out; rw [HF.out]; congr 1; omega, trivial⟩
                      case measure => simp [intOf]; omega
                  · have e : j = N := by omega
                    subst e
                    have eq : freeTo S.pg j = FZ := EF.out
                    rw [eq] at fj ⊢
                    obtain ⟨U, eU⟩ : ∃ U, (j : Int) - (FZ : Int) = U := ⟨_, rfl⟩
                    have u1 : (FZ : Int) + U = (j : Int) := by omega
                    have u0 : 0 ≤ U ∧ U ≤ 64 := by omega
                    rw [eU]
                    clear eU eq
                    go_wp2
                    go_roundw
                    case rel => exact ⟨k + 1, by omega, by omega, by go_num, ⟨S, by have := hGS.out.1; rw [show k + 1 + 5 = k + 5 + 1 by omega]; exact this, hGS.out.2, hy.out.1⟩, hy.out.2⟩
                    case measure => simp [intOf]; omega
              · have g4 : (ok == 4) = false := by simp [h4]
                clear h4
                by_cases h5 : ok = 5
                · subst h5
                  have kA := drop_call hq.out.1 hG (by omega) on
                  have hGS : Hid (Good (k + 5 + 1) (drS s on) ∧ (drS s on).n = N) := ⟨((hG.drS on).mono (Nat.le_succ _)), (drS_n _ _).trans hsn⟩
                  obtain ⟨S, eS⟩ : ∃ S, drS s on = S := ⟨_, rfl⟩
                  simp only [eS] at kA
                  rw [eS] at hGS
                  clear eS hG hsn
                  obtain ⟨FZ, eFS⟩ : ∃ FZ, freeTo S.pg N = FZ := ⟨_, rfl⟩
                  have EF := hidden_ eFS
                  have kS := fun (W : World) (q : PoolAt w.heap.size W b g S) => sizes_call q hGS.out.1.n1
                  have fl := freeTo_le S.pg N
                  have a0 := hGS.out.1.a0
                  have a1 := hGS.out.1.a1
                  simp only [hGS.out.2, eFS] at kS a1
                  rw [eFS] at fl
                  obtain ⟨AS, eAS⟩ : ∃ AS, S.aside = AS := ⟨_, rfl⟩
                  simp only [eAS] at kS a0 a1
                  clear eFS eAS
                  go_wp2_with (first
                    | (go_at_call 21; refine kA.mono ?_; rintro e W3 ⟨rfl, hp', o'⟩; have hz := hidden_ (And.intro hp' (hq.out.2.2.trans (o'.below hq.out.2.2.size))); clear  o' hp' kA hq e1 e2)
                    | (go_at_call 22; refine (kS _ hz.out.1).mono ?_; rintro e W4 ⟨rfl, m4, h4⟩; have hy : Hid (PoolAt w.heap.size W4 b g S ∧ Below w.heap.size w W4) := ⟨by rw [h4]; exact hz.out.1.drewN _, by rw [h4]; exact below_drew hz.out.2 ⟨_, rfl⟩⟩; clear hz h4 kS))
                  clear d0 d1' d2' e0
                  go_loopw [12, 13] (fun u i wr => ∃ j : Nat, j ≤ N ∧ i = .int .i64 j ∧ u = .int .i64 ((j : Int) - (freeTo S.pg j : Int)) ∧ wr = W4) (fun _ i _ => N - (intOf i).toNat)
                  case atStart => exact ⟨0, Nat.zero_le _, rfl, rfl, rfl⟩
                  case round =>
                    obtain ⟨j, hj, rfl, rfl, hw⟩ := hrel
                    subst hw
                    have fj := freeTo_le S.pg j
                    by_cases hjt : j < N
                    · have hjt' : (j : Int) < (N : Int) := by omega
                      obtain ⟨t1, t2, t3⟩ := tells_at hGS.out.1 j (by rw [hGS.out.2]; exact hjt)
                      have k23 := owners_call hy.out.1 (by rw [hGS.out.2]; omega) (j : Int)
                      have k24 := tag_call hy.out.1 (by rw [hGS.out.2]; omega) (j : Int)
                      have ow0 := hGS.out.1.ow0 j (by rw [hGS.out.2]; exact hjt)
                      rw [t1] at k23
                      obtain ⟨T, eT⟩ : ∃ T, tagZ S j = T := ⟨_, rfl⟩
                      rw [eT] at k24 t2 t3
                      obtain ⟨O, eO⟩ : ∃ O, (S.pg j).ow = O := ⟨_, rfl⟩
                      rw [eO] at k23 t2 t3 ow0
                      by_cases hO : O = 0
                      · have HF := hidden_ (show freeTo S.pg (j + 1) = freeTo S.pg j + 1 by simp only [freeTo]; rw [if_pos (by rw [eO]; exact hO)])
                        have q := t2 hO
                        obtain ⟨F, eF⟩ : ∃ F, freeTo S.pg j = F := ⟨_, rfl⟩
                        rw [eF] at HF fj ⊢
                        subst hO
                        clear t1 t2 t3 eT eO eF
                        obtain ⟨U, eU⟩ : ∃ U, (j : Int) - (F : Int) = U := ⟨_, rfl⟩
                        have u0 : 0 ≤ U ∧ U ≤ 64 := by omega
                        have HU := hidden_ eU
                        rw [eU]
                        clear eU
                        go_wp2_with (first
                          | (go_at_call 23; refine k23.mono ?_; rintro e W5 ⟨rfl, h5⟩; obtain rfl := h5.symm)
                          | (go_at_call 24; refine k24.mono ?_; rintro e W5 ⟨rfl, h5⟩; obtain rfl := h5.symm))
                        go_roundw
                        case rel => exact ⟨j + 1, by omega, by go_num, by have := HU.out; rw [HF.out]; congr 1; omega, trivial⟩
                        case measure => simp [intOf]; omega
                      · have HF := hidden_ (show freeTo S.pg (j + 1) = freeTo S.pg j by simp only [freeTo]; rw [if_neg (by rw [eO]; exact hO)]; rfl)
                        have q := t3 hO
                        have hO' : 0 < O := by omega
                        obtain ⟨F, eF⟩ : ∃ F, freeTo S.pg j = F := ⟨_, rfl⟩
                        rw [eF] at HF fj ⊢
                        clear t1 t2 t3 eT eO eF hO
                        obtain ⟨U, eU⟩ : ∃ U, (j : Int) - (F : Int) = U := ⟨_, rfl⟩
                        have u0 : 0 ≤ U ∧ U ≤ 64 := by omega
                        have HU := hidden_ eU
                        rw [eU]
                        clear eU
                        go_wp2_with (first
                          | (go_at_call 23; refine k23.mono ?_; rintro e W5 ⟨rfl, h5⟩; obtain rfl := h5.symm)
                          | (go_at_call 24; refine k24.mono ?_; rintro e W5 ⟨rfl, h5⟩; obtain rfl := h5.symm))
                        go_roundw
                        case rel => exact ⟨j + 1, by omega, by go_num, by have := HU.out; rw [HF.out]; congr 1; omega, trivial⟩
                        case measure => simp [intOf]; omega
                    · have e : j = N := by omega
                      subst e
                      have eq : freeTo S.pg j = FZ := EF.out
                      rw [eq] at fj ⊢
                      obtain ⟨U, eU⟩ : ∃ U, (j : Int) - (FZ : Int) = U := ⟨_, rfl⟩
                      have u1 : (FZ : Int) + U = (j : Int) := by omega
                      have u0 : 0 ≤ U ∧ U ≤ 64 := by omega
                      rw [eU]
                      clear eU eq
                      go_wp2
                      go_roundw
                      case rel => exact ⟨k + 1, by omega, by omega, by go_num, ⟨S, by have := hGS.out.1; rw [show k + 1 + 5 = k + 5 + 1 by omega]; exact this, hGS.out.2, hy.out.1⟩, hy.out.2⟩
                      case measure => simp [intOf]; omega
                · have g5 : (ok == 5) = false := by simp [h5]
                  clear h5
                  have hGS : Hid (Good (k + 5 + 1) s ∧ s.n = N) := ⟨hG.mono (Nat.le_succ _), hsn⟩
                  clear hG hsn
                  obtain ⟨FZ, eFS⟩ : ∃ FZ, freeTo s.pg N = FZ := ⟨_, rfl⟩
                  have EF := hidden_ eFS
                  have kS := fun (W : World) (q : PoolAt w.heap.size W b g s) => sizes_call q hGS.out.1.n1
                  have fl := freeTo_le s.pg N
                  have a0 := hGS.out.1.a0
                  have a1 := hGS.out.1.a1
                  simp only [hGS.out.2, eFS] at kS a1
                  rw [eFS] at fl
                  obtain ⟨AS, eAS⟩ : ∃ AS, s.aside = AS := ⟨_, rfl⟩
                  simp only [eAS] at kS a0 a1
                  clear eFS eAS
                  have hz := hidden_ (And.intro hq.out.1 hq.out.2.2)
                  clear hq e1 e2
                  go_wp2_with (first
                    | (go_at_call 22; refine (kS _ hz.out.1).mono ?_; rintro e W4 ⟨rfl, m4, h4⟩; have hy : Hid (PoolAt w.heap.size W4 b g s ∧ Below w.heap.size w W4) := ⟨by rw [h4]; exact hz.out.1.drewN _, by rw [h4]; exact below_drew hz.out.2 ⟨_, rfl⟩⟩; clear hz h4 kS))
                  clear d0 d1' d2' e0
                  go_loopw [12, 13] (fun u i wr => ∃ j : Nat, j ≤ N ∧ i = .int .i64 j ∧ u = .int .i64 ((j : Int) - (freeTo s.pg j : Int)) ∧ wr = W4) (fun _ i _ => N - (intOf i).toNat)
                  case atStart => exact ⟨0, Nat.zero_le _, rfl, rfl, rfl⟩
                  case round =>
                    obtain ⟨j, hj, rfl, rfl, hw⟩ := hrel
                    subst hw
                    have fj := freeTo_le s.pg j
                    by_cases hjt : j < N
                    · have hjt' : (j : Int) < (N : Int) := by omega
                      obtain ⟨t1, t2, t3⟩ := tells_at hGS.out.1 j (by rw [hGS.out.2]; exact hjt)
                      have k23 := owners_call hy.out.1 (by rw [hGS.out.2]; omega) (j : Int)
                      have k24 := tag_call hy.out.1 (by rw [hGS.out.2]; omega) (j : Int)
                      have ow0 := hGS.out.1.ow0 j (by rw [hGS.out.2]; exact hjt)
                      rw [t1] at k23
                      obtain ⟨T, eT⟩ : ∃ T, tagZ s j = T := ⟨_, rfl⟩
                      rw [eT] at k24 t2 t3
                      obtain ⟨O, eO⟩ : ∃ O, (s.pg j).ow = O := ⟨_, rfl⟩
                      rw [eO] at k23 t2 t3 ow0
                      by_cases hO : O = 0
                      · have HF := hidden_ (show freeTo s.pg (j + 1) = freeTo s.pg j + 1 by simp only [freeTo]; rw [if_pos (by rw [eO]; exact hO)])
                        have q := t2 hO
                        obtain ⟨F, eF⟩ : ∃ F, freeTo s.pg j = F := ⟨_, rfl⟩
                        rw [eF] at HF fj ⊢
                        subst hO
                        clear t1 t2 t3 eT eO eF
                        obtain ⟨U, eU⟩ : ∃ U, (j : Int) - (F : Int) = U := ⟨_, rfl⟩
                        have u0 : 0 ≤ U ∧ U ≤ 64 := by omega
                        have HU := hidden_ eU
                        rw [eU]
                        clear eU
                        go_wp2_with (first
                          | (go_at_call 23; refine k23.mono ?_; rintro e W5 ⟨rfl, h5⟩; obtain rfl := h5.symm)
                          | (go_at_call 24; refine k24.mono ?_; rintro e W5 ⟨rfl, h5⟩; obtain rfl := h5.symm))
                        go_roundw
                        case rel => exact ⟨j + 1, by omega, by go_num, by have := HU.out; rw [HF.out]; congr 1; omega, trivial⟩
                        case measure => simp [intOf]; omega
                      · have HF := hidden_ (show freeTo s.pg (j + 1) = freeTo s.pg j by simp only [freeTo]; rw [if_neg (by rw [eO]; exact hO)]; rfl)
                        have q := t3 hO
                        have hO' : 0 < O := by omega
                        obtain ⟨F, eF⟩ : ∃ F, freeTo s.pg j = F := ⟨_, rfl⟩
                        rw [eF] at HF fj ⊢
                        clear t1 t2 t3 eT eO eF hO
                        obtain ⟨U, eU⟩ : ∃ U, (j : Int) - (F : Int) = U := ⟨_, rfl⟩
                        have u0 : 0 ≤ U ∧ U ≤ 64 := by omega
                        have HU := hidden_ eU
                        rw [eU]
                        clear eU
                        go_wp2_with (first
                          | (go_at_call 23; refine k23.mono ?_; rintro e W5 ⟨rfl, h5⟩; obtain rfl := h5.symm)
                          | (go_at_call 24; refine k24.mono ?_; rintro e W5 ⟨rfl, h5⟩; obtain rfl := h5.symm))
                        go_roundw
                        case rel => exact ⟨j + 1, by omega, by go_num, by have := HU.out; rw [HF.out]; congr 1; omega, trivial⟩
                        case measure => simp [intOf]; omega
                    · have e : j = N := by omega
                      subst e
                      have eq : freeTo s.pg j = FZ := EF.out
                      rw [eq] at fj ⊢
                      obtain ⟨U, eU⟩ : ∃ U, (j : Int) - (FZ : Int) = U := ⟨_, rfl⟩
                      have u1 : (FZ : Int) + U = (j : Int) := by omega
                      have u0 : 0 ≤ U ∧ U ≤ 64 := by omega
                      rw [eU]
                      clear eU eq
                      go_wp2
                      go_roundw
                      case rel => exact ⟨k + 1, by omega, by omega, by go_num, ⟨s, by have := hGS.out.1; rw [show k + 1 + 5 = k + 5 + 1 by omega]; exact this, hGS.out.2, hy.out.1⟩, hy.out.2⟩
                      case measure => simp [intOf]; omega
    · have k22 := sizes_call hp hG.n1
      have dr := draw_all hG
      have k19 := fun m => draw_call (hp.drewN m) hG tEnd s.aside
      have k22b := fun (W : World) (q : PoolAt w.heap.size W b g (drawS s tEnd s.aside)) => sizes_call q (by rw [dr.2.2]; exact hG.n1)
      simp only [dr.1] at k19
      simp only [dr.2.1] at k22b
      obtain ⟨A, eA⟩ : ∃ A, s.aside = A := ⟨_, rfl⟩
      simp only [eA] at k22 k19 k22b
      obtain ⟨S, eS⟩ : ∃ S, drawS s tEnd A = S := ⟨_, rfl⟩
      simp only [eS] at k19 k22b
      obtain ⟨F, eF⟩ : ∃ F, freeTo s.pg s.n = F := ⟨_, rfl⟩
      simp only [eF] at k22
      have hb2 := hidden_ hb'
      clear dr eA eS eF hb' hp hG
      have arms : True := trivial
      by_cases y1 : k < n1
      · have y2 : k = 100 := by omega
        have y1' : (k : Int) < (n1 : Int) := by omega
        subst y2
        clear hlt
        go_wp2_with (first
          | (go_at_call 22; refine k22.mono ?_; rintro e W6 ⟨rfl, m6, h6⟩; replace k19 := k19 m6; rw [← h6] at k19; replace hb2 := hidden_ (below_drew hb2.out ⟨_, h6⟩); clear k22 h6)
          | (go_at_call 19; refine k19.mono ?_; rintro e W7 ⟨x1, x2, x3, rfl, x4, hp', o'⟩; have hp := hidden_ hp'; replace hb2 := hidden_ (hb2.out.trans (o'.below hb2.out.size)); clear k19 x4 hp' o')
          | (go_at_call 22; refine (k22b _ hp.out).mono ?_; rintro e W8 ⟨rfl, m8, h8⟩; replace hb2 := hidden_ (below_drew hb2.out ⟨_, h8⟩); clear k22b h8))
        go_ret
        exact ⟨rfl, hb2.out⟩
      · have y1' : ¬ (k : Int) < (n1 : Int) := by omega
        clear hlt
        go_wp2_with (first
          | (go_at_call 22; refine k22.mono ?_; rintro e W6 ⟨rfl, m6, h6⟩; replace k19 := k19 m6; rw [← h6] at k19; replace hb2 := hidden_ (below_drew hb2.out ⟨_, h6⟩); clear k22 h6)
          | (go_at_call 19; refine k19.mono ?_; rintro e W7 ⟨x1, x2, x3, rfl, x4, hp', o'⟩; have hp := hidden_ hp'; replace hb2 := hidden_ (hb2.out.trans (o'.below hb2.out.size)); clear k19 x4 hp' o')
          | (go_at_call 22; refine (k22b _ hp.out).mono ?_; rintro e W8 ⟨rfl, m8, h8⟩; replace hb2 := hidden_ (below_drew hb2.out ⟨_, h8⟩); clear k22b h8))
        go_ret
        exact ⟨rfl, hb2.out⟩

theorem contract (H : Type) (enc : TypeId × Value → H) (W : World) (base : Nat) (args : Array Value) (ds gs : List (DataW H)) (before : List MemPlace)
    (hval0 : ∀ (j : Nat) t v, Try.f4.params[j]? = some t → args[j]? = some v → Value.okWide Try.prog W .any base t v)
    (hW : DataW.Whole enc Try.prog Try.f4.params.toList Rows.poolKeepsSpec.vars false W args.toList ds gs before) :
    Calls Try.prog 4 args W fun e W' => ∃ v, e = .returned v ∧ Rows.poolKeepsSpec.post enc Try.prog Try.f4 false true false false W args v W' := by
  have hval : ∀ (j : Nat) t v, Try.f4.params[j]? = some t → args[j]? = some v → Value.okWide Try.prog W .any base t v := hval0
  have hW' := hW
  obtain ⟨p, q, hA0, hV, rfl, hfz, hnd⟩ := hW
  have hA : DataW.TrodAll enc Try.prog W 0 (fun _ => true) true Try.f4.params.toList args.toList ds p := hA0
  rw [Try.params4] at hA hval
  obtain ⟨v0, vs0, d0, ds0, p0, q0, hargs, rfl, rfl, h0, r0⟩ := trodAll_cons hA
  obtain ⟨v1, vs1, d1, ds1, p1, q1, rfl, rfl, rfl, h1, r1⟩ := trodAll_cons r0
  obtain ⟨rfl, rfl, rfl⟩ := trodAll_nil r1
  obtain rfl : args = #[v0, v1] := by cases args; simp_all
  obtain ⟨rfl, rfl⟩ := trodVars_none hV
  obtain ⟨a0, rfl, rfl, rfl, w0⟩ := open_int Try.underlying3 (hval 0 3 v0 rfl rfl) h0
  obtain ⟨a1, n1, c1, rfl⟩ := okWide_slice Try.underlying22 (hval 1 22 v1 rfl rfl)
  have k1 := h1
  have lt1 : ∀ x ∈ p1, x.block < W.heap.size := by obtain ⟨m, hm⟩ := k1; exact DataW.trod_lt m _ _ _ hm
  obtain ⟨O1, w1, e1, l1⟩ := open_ops h1
  clear hA0 hval0
  refine (walk a0 a1 n1 c1 O1 W w0 w1 e1 l1).mono fun e W' ⟨he, bel⟩ => ?_
  subst he
  exact ⟨_, rfl, _, _, _, [], _, [], hW', trodAll_mk1 (shut_bool Try.underlying4 _), (trodAll_cons_mk (shut_int Try.underlying3 w0) (trodAll_cons_mk (Below.trod laidOut (by kernel_rfl) (of_decide_eq_true (by kernel_rfl)) k1 bel lt1) trodAll_mk0)), rfl, bel.frame _, fun h => by cases h⟩

set_option maxRecDepth 100000 in
theorem lifted (os : Os) (started : os.Started) (H : Type) (enc : TypeId × Value → H) :
    ReturnsInHanded {} Try.checked os 4 .any (Rows.poolKeepsSpec.pre6 enc Try.prog Try.f4 Rows.poolKeepsRow.domain false) (Rows.poolKeepsSpec.post enc Try.prog Try.f4 false true false false) := by
  refine returnsInHanded_of_change (C := Try.checked) own started (by kernel_rfl) Try.func4
    (ChangeSpec.witness6 (enc := enc) (C := Try.checked) false ⟨#[], #[.int .i64 0, .slice none 0 0], []⟩ 8 (by kernel_rfl) (by kernel_rfl) (by kernel_rfl) (by kernel_rfl)) ?_
  intro W base args ds gs before hval hW _ _
  exact contract H enc W base args ds gs before hval hW

theorem over : Rows.poolKeepsRow.holds Try.pinned (OpenSpec.ofChange Rows.poolKeepsSpec) :=
  OpenClaim.holds_of_wide 4 Try.f4 rfl rfl rfl rfl rfl rfl rfl ⟨rfl, rfl, rfl, rfl, rfl⟩ rfl rfl rfl rfl rfl (by kernel_rfl) Try.func4 (by kernel_rfl)
    (of_decide_eq_true (by kernel_rfl)) (by unfold Func.isWrapper; first | (rw [if_pos (by decide +kernel)]; kernel_rfl) | (rw [if_neg (by decide +kernel)]; exact ⟨rfl, rfl⟩))
    (fun os started H enc _ => lifted os started H enc)

theorem proved : Rows.PoolKeepsSaid :=
  over
#print axioms proved
end Go.Proofs.Ytjkjfgmbjcjofaa.poolKeeps
