/- ShelfOldest: where room must be made on the shelf, what was pinned longest ago goes first, and no more than must; for every row of turns, without a condition. -/
import Derived.Test.YtfggkkhehaafcaaRows
import Derived.Test.YtfggkkhehaafcaaView
import Derived.Test.YtfggkkhehaafcaaOwn
import Derived.Test.YtfggkkhehaafcaaPages
import Derived.Test.YtfggkkhehaafcaaReadsP
import Derived.Test.YtfggkkhehaafcaaReadsQ
import Derived.Test.YtfggkkhehaafcaaLeast
import Derived.Test.YtfggkkhehaafcaaLays
import Derived.Test.YtfggkkhehaafcaaNews
import Derived.Test.YtfggkkhehaafcaaGoods
import Derived.Test.YtfggkkhehaafcaaPlain
import Derived.Test.YtfggkkhehaafcaaLies
import Derived.Test.YtfggkkhehaafcaaCopies
import Derived.Test.YtfggkkhehaafcaaNeeds
import Derived.Test.YtfggkkhehaafcaaPlace
import Derived.Test.YtfggkkhehaafcaaFetch
import Derived.Test.YtfggkkhehaafcaaFetched
import Derived.Test.YtfggkkhehaafcaaRelease
import Derived.Test.YtfggkkhehaafcaaMapV
import Derived.Test.YtfggkkhehaafcaaShPlain
import Derived.Test.YtfggkkhehaafcaaShActs
import Derived.Test.YtfggkkhehaafcaaShAt
import Derived.Test.YtfggkkhehaafcaaIndex
import Derived.Test.YtfggkkhehaafcaaDelete
import Derived.Test.YtfggkkhehaafcaaShRd
import Derived.Test.YtfggkkhehaafcaaShTurn
import Derived.Test.YtfggkkhehaafcaaShRel
import Derived.Test.YtfggkkhehaafcaaShLoose
import Derived.Test.YtfggkkhehaafcaaShRoom
import Derived.Test.YtfggkkhehaafcaaShRem
import Derived.Test.YtfggkkhehaafcaaShRead
import Derived.Test.YtfggkkhehaafcaaShPut
import Derived.Test.YtfggkkhehaafcaaShBring
import Derived.Test.YtfggkkhehaafcaaShPin
import Derived.Test.YtfggkkhehaafcaaShIn
import Derived.Test.YtfggkkhehaafcaaWorks
import Derived.Test.YtfggkkhehaafcaaWorksK
import Derived.Test.YtfggkkhehaafcaaWorks14
import Derived.Test.YtfggkkhehaafcaaOldK
import Derived.Test.YtfggkkhehaafcaaOldM
import Derived.WalkKit
import Derived.ProofKit
import Derived.OpenShut
import Derived.ChangeOld
import Derived.Below
import Derived.WalkLawsBesides
import Derived.ChangeMaps5
import Derived.Maps.OwnSet
import Derived.OwnWalk
import Derived.Deep.QuietTactic
import Derived.BigQuiet
import Derived.Maps.AppendAt
namespace Go.Proofs.Ytfggkkhehaafcaa.shelfOldest
open Go.ChangeShapes Go.WideShapes Go.ChangeAt Go.RowKit
set_option linter.unusedVariables false
set_option linter.unusedSimpArgs false

theorem own : ownKnob Try.prog.godebug = none := by kernel_rfl
theorem laidOut : laidOutB Try.prog = true := by kernel_rfl


set_option maxHeartbeats 4000000 in
set_option maxRecDepth 20000 in
theorem walk (a0 : Option Addr) (n0 c0 : Nat) (z0 : List Int) (w : World) (w0 : Reads .i64 w a0 n0 z0) (e0 : a0 = none → c0 = 0) (l0 : n0 ≤ c0) :
    Calls Try.prog 5 #[.slice a0 n0 c0] w fun e w' => e = .returned (.bool true) ∧ Below w.heap.size w w' := by
  have k22 := works_call w
  have k7 := fun W => (show Calls Try.prog 7 #[.int .i64 3] W _ from new_call 3 (by decide) (by decide) W)
  have HR := hidden_ w0
  have hlen := w0.len
  have hmax := w0.max
  clear w0 e0 l0
  go_enter Try.func5, Try.ntmps5
  go_wp2_with (first
    | (go_at_call 22; refine k22.mono ?_; rintro e W1 ⟨rfl, hb1⟩; have HB1 := hidden_ hb1; clear hb1 k22)
    | (go_at_call 7; refine (k7 W1).mono ?_; rintro e W2 ⟨rfl, hp2, hb2⟩; have k9 := sf_new (hp2 w.heap.size HB1.out.size) (by decide) (by decide); have HB2 := hidden_ (HB1.out.trans (hb2.mono HB1.out.size)); clear hp2 hb2)
    | (go_at_call 9; refine k9.mono ?_; rintro e W3 ⟨rfl, s3, hb3⟩; have HS3 := hidden_ s3; have HB3 := hidden_ (HB2.out.trans (hb3.mono HB2.out.size)); clear s3 hb3 k9))
  obtain ⟨nm0, rw0⟩ := lit5 W3
  have hbl := below_new (Below.refl W3.heap.size W3) (.cells (N5.map Value.string).toArray 9)
  obtain ⟨W4, eW4⟩ : ∃ W4, W3.alloc (.cells (N5.map Value.string).toArray 9) = W4 := ⟨_, rfl⟩
  rw [eW4] at nm0 rw0 hbl
  have eW4' : W3.alloc (.cells #[.string ⟨#[97]⟩, .string ⟨#[98]⟩, .string ⟨#[99]⟩, .string ⟨#[100]⟩, .string ⟨#[101]⟩] 9) = W4 := eW4
  rw [eW4']
  have HS4 := hidden_ (HS3.out.below hbl)
  have HB4 := hidden_ (HB3.out.trans (hbl.mono HB3.out.size))
  obtain ⟨Y, eY⟩ : ∃ Y : Addr, Y = ⟨W3.heap.size, 0, none⟩ := ⟨_, rfl⟩
  replace rw0 : Row 9 W4 Y.block 5 := by rw [eY]; exact rw0
  obtain ⟨x, ex⟩ : ∃ x : Nat, W2.heap.size + 1 = x := ⟨_, rfl⟩
  obtain ⟨mb, emb⟩ : ∃ mb : Nat, W2.heap.size = mb := ⟨_, rfl⟩
  obtain ⟨pb, epb⟩ : ∃ pb : Nat, W1.heap.size + 1 = pb := ⟨_, rfl⟩
  obtain ⟨g, eg⟩ : ∃ g : Nat, W1.heap.size = g := ⟨_, rfl⟩
  rw [ex, emb, epb, eg] at HS4
  rw [← eY] at nm0
  have HNm := hidden_ (And.intro nm0 rw0)
  rw [ex, epb, ← eY]
  clear nm0 rw0 hbl eW4 eW4' HS3 HB3 HB2 HB1 eY ex emb epb eg k7
  go_loopw [7] (fun i wr => ∃ k : Nat, k ≤ 5 ∧ i = .int .i64 k ∧ Hid (Sf w.heap.size wr x mb pb g none (newPl 3) (L5 k) k ∧ ReadT wr (some Y) 5 N5 ∧ Row 9 wr Y.block 5 ∧ Below w.heap.size w wr)) (fun i _ => 5 - (intOf i).toNat)
  case atStart => exact ⟨0, Nat.zero_le _, rfl, hidden_ ⟨HS4.out, HNm.out.1, HNm.out.2, HB4.out⟩⟩
  case round =>
    obtain ⟨k, hk, rfl, hh⟩ := hrel
    by_cases hlt : k < 5
    · have cy := hh.out.2.1.cell _ rfl k hlt
      have hsz := N5_small _ (N5_mem hlt)
      have hw : IntKind.i8.wrap (k : Int) = (k : Int) := wrap_i8 (by omega) (by omega)
      have hbl := below_new (Below.refl wr.heap.size wr) (.cells #[.int .i8 (k : Int)] 59)
      have kP := sf_put (hh.out.1.below hbl) (by omega) (N5.getD k noText) hsz _ 1 1 [(k : Int)] (lit1 .i8 wr 59 _ rfl (k : Int) (wf_i8 (by omega) (by omega))) (fun e => by cases e) (by decide)
      have key : Hid (∀ W', Sf w.heap.size W' x mb pb g none (newPl 3) (L5 (k + 1)) (k + 1) → OffS w.heap.size TS (SS mb none) (wr.alloc (.cells #[.int .i8 (k : Int)] 59)) W' → ReadT W' (some Y) 5 N5 ∧ Row 9 W' Y.block 5 ∧ Below w.heap.size w W') := hidden_ (fun W' s' o' => by
        have ap : Ap9 (wr.alloc (.cells #[.int .i8 (k : Int)] 59)) (some Y) none := fun i hi => by
          obtain ⟨y, hy, rfl⟩ := hi
          obtain rfl := Option.some.inj hy
          exact ⟨fun h => by obtain ⟨_, h, _⟩ := h; (cases h), 5, hh.out.2.2.1.of_block (hbl.block _ hh.out.2.2.1.lt)⟩
        obtain ⟨q1, q2⟩ := ap.kept (a' := none) (hh.out.1.below hbl) o' (fun k h => by obtain ⟨_, h, _⟩ := h; (cases h))
        have e := q2 Y.block ⟨_, rfl, rfl⟩
        have b1 := hh.out.2.2.2.trans (hbl.mono hh.out.2.2.2.size)
        exact ⟨(hh.out.2.1.below hbl).kept q2, (hh.out.2.2.1.of_block (hbl.block _ hh.out.2.2.1.lt)).of_block e, b1.trans (o'.below b1.size)⟩)
      obtain ⟨nmk, enm⟩ : ∃ nmk, N5.getD k noText = nmk := ⟨_, rfl⟩
      obtain ⟨E, eE⟩ : ∃ E, putE (L5 k) nmk = E := ⟨_, rfl⟩
      have eL : putL (L5 k) nmk [(k : Int)] = L5 (k + 1) := by rw [← enm]; rfl
      rw [enm] at cy kP
      rw [eE, eL] at kP
      clear hbl hsz enm eE eL
      go_wp2_with (first | (go_at_call 23; refine kP.mono ?_; rintro e W' ⟨rfl, s', o'⟩; obtain ⟨q1, q2, q3⟩ := key.out W' s' o'; have HQ := hidden_ (And.intro s' (And.intro q1 (And.intro q2 q3))); clear s' o' q1 q2 q3 kP key))
      go_roundw
      case rel => exact ⟨k + 1, by omega, by go_num, HQ⟩
      case measure => simp [intOf]; omega
    · have h5 : (k : Int) = 5 := by omega
      have HO : Hid (OldI w.heap.size w x mb pb g Y 5 none 0 wr) := hidden_ (by
        obtain rfl : k = 5 := by omega
        exact ⟨⟨none, newPl 3, L5 5, [], hh.out.1, o5_start, ⟨rfl, by decide, fun h => by omega, fun _ h => by cases h⟩, fun k h => (by obtain ⟨_, h, _⟩ := h; cases h), fun i hi => (by
          obtain ⟨y, hy, rfl⟩ := hi
          obtain rfl := Option.some.inj hy
          exact ⟨fun h => by obtain ⟨_, h, _⟩ := h; (cases h), 5, hh.out.2.2.1⟩)⟩, hh.out.2.1, hh.out.2.2.2⟩)
      clear hh HS4 HNm HB4
      go_wp2
      clear h5 hk hlt
      rename World => W5
      go_loopw [8, 9] (fun v i wr => ∃ (k : Nat) (oa : Option Addr) (ol oc : Nat), k ≤ 60 ∧ i = .int .i64 k ∧ v = .slice oa ol oc ∧ ol ≤ 3 ∧ Hid (OldI w.heap.size w x mb pb g Y (5 + k) oa ol wr)) (fun _ i _ => 60 - (intOf i).toNat)
      case atStart => exact ⟨0, none, 0, 0, Nat.zero_le _, rfl, rfl, Nat.zero_le _, HO⟩
      case round =>
        obtain ⟨k, oa, ol, oc, hk6, rfl, rfl, hol, hh⟩ := hrel
        clear HO
        by_cases hn : k < n0
        · by_cases h60 : k < 60
          · obtain ⟨a, s, L, ord, sf, o5, rt, ap, apY⟩ := hh.out.st
            have bel := hh.out.bel
            have nm := hh.out.nm
            obtain ⟨y, rfl⟩ := HR.out.some_ (by omega)
            have cz := (HR.out.below bel).cell y rfl k hn
            obtain ⟨Z, eZ⟩ : ∃ Z, z0.getD k 0 = Z := ⟨_, rfl⟩
            rw [eZ] at cz
            obtain ⟨M, hM, (m1 : (IntKind.u64.wrap Z).tmod 5 = (M : Int)), (m2 : IntKind.u64.wrap Z % 5 = (M : Int))⟩ := restN Z 5 (by decide)
            have cn := nm.cell Y rfl M hM
            have hmem := N5_mem hM
            have hsz := N5_small _ hmem
            obtain ⟨nm5, en⟩ : ∃ t, N5.getD M noText = t := ⟨_, rfl⟩
            rw [en] at cn hmem hsz
            obtain ⟨p1, p2, p3⟩ := o5_next sf.ok o5 hmem
            have kN := sf_pin sf (by omega) nm5 hsz
            rw [p1] at kN
            have key : Hid (∀ W6 a', Sf w.heap.size W6 x mb pb g a' (pinP s L nm5).1 (pinP s L nm5).2 (5 + k + 1) → (∀ i, blkOf a' i → blkOf a i ∨ wr.heap.size ≤ i) → OffS w.heap.size TS (SS mb a) wr W6 →
                Calls Try.prog 25 #[.pointer (some ⟨x, 0, none⟩), .string nm5] W6 fun e W7 => e = .returned (.int .i64 0) ∧ Sf w.heap.size W7 x mb pb g a' (pinP s L nm5).1 (unpL (pinP s L nm5).2 nm5) (5 + k + 1) ∧ ReadT W7 oa ol ord ∧ Ap9 W7 oa a' ∧ Ap9 W7 (some Y) a' ∧ ReadT W7 (some Y) 5 N5 ∧ Below w.heap.size w W7) := hidden_ (fun W6 a' s6 ha o6 => by
              have := sf_unpin s6 (by omega) nm5 hsz
              rw [p2] at this
              refine this.mono ?_
              rintro e W7 ⟨rfl, s7, o7⟩
              obtain ⟨q1, q2⟩ := ap.kept sf o6 ha
              obtain ⟨q3, q4⟩ := apY.kept sf o6 ha
              obtain ⟨q5, q6⟩ := q1.kept s6 o7 (fun _ h => .inl h)
              obtain ⟨q7, q8⟩ := q3.kept s6 o7 (fun _ h => .inl h)
              have b6 := bel.trans (o6.below bel.size)
              exact ⟨rfl, s7, (rt.kept q2).kept q6, q5, q7, (nm.kept q4).kept q8, b6.trans (o7.below b6.size)⟩)
            have HN := hidden_ p3
            obtain ⟨qq, eqq⟩ : ∃ qq, pinP s L nm5 = qq := ⟨_, rfl⟩
            rw [eqq] at kN key HN
            obtain ⟨L', eL⟩ : ∃ L', unpL qq.2 nm5 = L' := ⟨_, rfl⟩
            rw [eL] at key HN
            clear hh sf o5 rt ap apY p1 p2 p3 eZ en bel nm eqq eL hmem
            go_wp2_with (first
              | (go_at_call 24; refine kN.mono ?_; rintro e W6 ⟨rfl, ⟨a', s6, ha⟩, o6⟩; have kU := key.out W6 a' s6 ha o6; clear kN key s6 ha o6)
              | (go_at_call 25; refine kU.mono ?_; rintro e W7 ⟨rfl, q1, q2, q3, q4, q5, q6⟩; have HQ := hidden_ (And.intro q1 (And.intro q2 (And.intro q3 (And.intro q4 (And.intro q5 q6))))); clear kU q1 q2 q3 q4 q5 q6))
            rename World => W7
            go_loopw [11, 12] (fun v i wr => ∃ (j : Nat) (na : Option Addr) (nl nc : Nat), j ≤ ol ∧ i = .int .i64 j ∧ v = .slice na nl nc ∧ nl ≤ j ∧ Hid (RowT W7.heap.size wr na nl nc ((ord.take j).filter (fun u => !decide (u = nm5))) ∧ Below W7.heap.size W7 wr)) (fun _ i _ => ol - (intOf i).toNat)
            case atStart => exact ⟨0, none, 0, 0, Nat.zero_le _, rfl, rfl, Nat.le_refl _, hidden_ ⟨RowT.nil _ _, Below.refl _ _⟩⟩
            case round =>
              obtain ⟨j, na, nl, nc, hj, rfl, rfl, hnl, hr⟩ := hrel
              by_cases hjl : j < ol
              · have ro := HQ.out.2.1.below hr.out.2
                have hol2 := ro.len
                obtain ⟨oy, rfl⟩ := ro.some_ (by omega)
                have cj := ro.cell oy rfl j hjl
                have htk : ord.take (j + 1) = ord.take j ++ [ord.getD j noText] := by rw [List.take_add_one]; simp [List.getD, show j < ord.length by omega]
                obtain ⟨t, et⟩ : ∃ t, ord.getD j noText = t := ⟨_, rfl⟩
                rw [et] at cj htk
                by_cases e : t = nm5
                · have q := text_same e
                  have hf : (ord.take (j + 1)).filter (fun u => !decide (u = nm5)) = (ord.take j).filter (fun u => !decide (u = nm5)) := by rw [htk, List.filter_append, List.filter_cons_of_neg (by simp [e])]; simp
                  have HX := hidden_ (And.intro hr.out.1 hr.out.2)
                  rw [← hf] at HX
                  clear ro hr htk et hf e hol2
                  go_wp2
                  go_roundw
                  case rel => exact ⟨j + 1, na, nl, nc, by omega, by go_num, rfl, by omega, HX⟩
                  case measure => simp [intOf]; omega
                · have q := text_other e
                  have hf : (ord.take (j + 1)).filter (fun u => !decide (u = nm5)) = (ord.take j).filter (fun u => !decide (u = nm5)) ++ [t] := by rw [htk, List.filter_append, List.filter_cons_of_pos (by simp [e])]; simp
                  obtain ⟨na', nc', W8, hap, hrow, ho8, _⟩ := run_append_text hr.out.1 t (by omega) hr.out.2.size 46
                  rw [← hf] at hrow
                  have HX := hidden_ (And.intro hrow (hr.out.2.trans (ho8.below hr.out.2.size)))
                  clear ro hr htk et hf e hrow ho8 hol2
                  go_wp2_with (first | (at_builtin; refine wpList_append_run rfl (.tmp 79) (.tmp 84) 46 rfl 46 rfl _ _ rfl rfl _ _ hap ?_))
                  go_roundw
                  case rel => exact ⟨j + 1, na', nl + 1, nc', by omega, by go_num, rfl, by omega, HX⟩
                  case measure => simp [intOf]; omega
              · obtain rfl : j = ol := by omega
                have hol2 := HQ.out.2.1.len
                have hff : (ord.take j).filter (fun u => !decide (u = nm5)) = ord.filter (fun u => !decide (u = nm5)) := by rw [← hol2, List.take_length]
                have hrow0 := hr.out.1
                rw [hff] at hrow0
                obtain ⟨na', nc', W8, hap, hrow, ho8, _⟩ := run_append_text hrow0 nm5 (by omega) hr.out.2.size 46
                obtain ⟨d, ed⟩ : ∃ d, nl + 1 = d := ⟨_, rfl⟩
                rw [ed] at hap hrow
                have hdl := hrow.len
                have hcm := hrow.capMax
                obtain ⟨z, hz⟩ := hrow.reads.some_ (by omega)
                subst hz
                have hncm := hcm.2.1
                have hdc := hcm.1
                have hd4 : d ≤ 4 := by omega
                have b8 := hr.out.2.trans (ho8.below hr.out.2.size)
                have s8 := HQ.out.1.below b8
                have apO : ∀ zz : Addr, zz.block = z.block → Ap9 W8 (some zz) a' := fun zz ez i hi => by
                  obtain ⟨y', hy', rfl⟩ := hi
                  obtain rfl := Option.some.inj hy'
                  obtain ⟨g1, m', r'⟩ := own_blk hrow.own ⟨z, rfl, rfl⟩
                  rw [ez]
                  refine ⟨fun h => ?_, m', r'⟩
                  have := (HQ.out.1.ordLt h).2.1
                  omega
                have kS := sf_resident s8 (by omega)
                rw [HN.out.nms] at kS
                have HX := hidden_ (And.intro s8 (And.intro (HQ.out.2.2.2.1.below b8) (And.intro (HQ.out.2.2.2.2.1.below b8) (HQ.out.2.2.2.2.2.trans (b8.mono HQ.out.2.2.2.2.2.size)))))
                have e5 : 5 + (k + 1) = 5 + k + 1 := by omega
                have HF : Hid (∀ (zz : Addr) (DD : Nat) W10, ReadT W8 (some zz) DD (nextO ord nm5) → Ap9 W8 (some zz) a' → Below W8.heap.size W8 W10 → OldI w.heap.size w x mb pb g Y (5 + (k + 1)) (some zz) DD W10) := hidden_ (fun zz DD W10 r1 r2 bz => by
                  rw [e5]
                  exact ⟨⟨a', _, _, _, HX.out.1.below bz, HN.out, r1.below bz, r2.below bz, HX.out.2.1.below bz⟩, HX.out.2.2.1.below bz, HX.out.2.2.2.trans (bz.mono (HX.out.2.2.2.size))⟩)
                by_cases hd3 : d ≤ 3
                · have eO : nextO ord nm5 = ord.filter (fun u => !decide (u = nm5)) ++ [nm5] := by
                    unfold nextO lst3
                    rw [hdl, show d - 3 = 0 by omega]
                    rfl
                  have rO := hrow.reads
                  rw [← eO] at rO
                  have HZ := hidden_ (And.intro rO (apO z rfl))
                  clear hr hrow hrow0 ho8 hff hol2 eO b8 s8 rO apO hcm hdl e5
                  have hd : d = 1 ∨ d = 2 ∨ d = 3 := by omega
                  rcases hd with rfl | rfl | rfl
                  all_goals
                    obtain ⟨z9, e9⟩ : ∃ z9, z9 = nc' := ⟨_, rfl⟩
                    clear e9 ed
                    go_wp2_with (first
                      | (at_builtin; refine wpList_append_run rfl (.tmp 86) (.tmp 88) 46 rfl 46 rfl _ _ rfl rfl _ _ hap ?_)
                      | (go_at_call 17; refine kS.mono ?_; rintro e W9 ⟨⟨ra, rl, rc, rfl, rr⟩, b9⟩; have k16 := sameT_call (c := rc) (c' := nc') rr.reads (HZ.out.1.below b9) (by have h1 := rr.len; have h2 := HZ.out.1.len; omega); have H9 := hidden_ b9; clear kS rr b9)
                      | (go_at_call 16; refine k16.mono ?_; rintro e W10 ⟨rfl, m10, h10⟩; have H10 := hidden_ h10; clear k16 h10))
                    have HG := hidden_ (HF.out _ _ W10 HZ.out.1 HZ.out.2 (by rw [H10.out]; exact below_drew H9.out ⟨m10, rfl⟩))
                    go_roundw
                    case rel => exact ⟨k + 1, some z, _, nc', by omega, by go_num, rfl, by omega, HG⟩
                    case measure => simp [intOf]; omega
                · obtain rfl : d = 4 := by omega
                  have eO : nextO ord nm5 = (ord.filter (fun u => !decide (u = nm5)) ++ [nm5]).drop 1 := by
                    unfold nextO lst3
                    rw [hdl]
                  obtain ⟨g', rfl⟩ : ∃ g', z = ⟨g', 0, none⟩ := by
                    rcases hrow.own.2 with ⟨h1, _⟩ | ⟨g', cap, cur, h1, _⟩
                    · cases h1
                    · simp only [Value.slice.injEq, Option.some.injEq] at h1
                      exact ⟨g', h1.1⟩
                  have rO := hrow.reads.drop 1 (by omega)
                  rw [← eO, add_off] at rO
                  have HZ := hidden_ (And.intro rO (apO ⟨g', 1, none⟩ rfl))
                  have hnc1 : ¬ nc' = 1 := by omega
                  clear hr hrow hrow0 ho8 hff hol2 eO b8 s8 rO apO hcm hdl e5 hd3 ed
                  go_wp2_with (first
                    | (at_builtin; refine wpList_append_run rfl (.tmp 86) (.tmp 88) 46 rfl 46 rfl _ _ rfl rfl _ _ hap ?_)
                    | (go_at_call 17; refine kS.mono ?_; rintro e W9 ⟨⟨ra, rl, rc, rfl, rr⟩, b9⟩; have k16 := sameT_call (c := rc) (c' := nc' - 1) rr.reads (HZ.out.1.below b9) (by have h1 := rr.len; have h2 := HZ.out.1.len; omega); have H9 := hidden_ b9; clear kS rr b9)
                    | (go_at_call 16; refine k16.mono ?_; rintro e W10 ⟨rfl, m10, h10⟩; have H10 := hidden_ h10; clear k16 h10))
                  have HG := hidden_ (HF.out _ _ W10 HZ.out.1 HZ.out.2 (by rw [H10.out]; exact below_drew H9.out ⟨m10, rfl⟩))
                  go_roundw
                  case rel => exact ⟨k + 1, some ⟨g', 1, none⟩, _, nc' - 1, by omega, by go_num, rfl, by omega, HG⟩
                  case measure => simp [intOf]; omega
          · obtain rfl : k = 60 := by omega
            have HB := hidden_ hh.out.bel
            clear hh
            go_wp2
            go_ret
            exact ⟨rfl, HB.out⟩
        · have HB := hidden_ hh.out.bel
          clear hh
          go_wp2
          go_ret
          exact ⟨rfl, HB.out⟩

set_option maxRecDepth 100000 in
theorem contract (H : Type) (enc : TypeId × Value → H) (W : World) (base : Nat) (args : Array Value) (ds gs : List (DataW H)) (before : List MemPlace)
    (hval0 : ∀ (j : Nat) t v, Try.f5.params[j]? = some t → args[j]? = some v → Value.okWide Try.prog W .any base t v)
    (hW : DataW.Whole enc Try.prog Try.f5.params.toList Rows.shelfOldestSpec.vars false W args.toList ds gs before) :
    Calls Try.prog 5 args W fun e W' => ∃ v, e = .returned v ∧ Rows.shelfOldestSpec.post enc Try.prog Try.f5 false true false false W args v W' := by
  have hval : ∀ (j : Nat) t v, Try.f5.params[j]? = some t → args[j]? = some v → Value.okWide Try.prog W .any base t v := hval0
  have hW' := hW
  obtain ⟨p, q, hA0, hV, rfl, hfz, hnd⟩ := hW
  have hA : DataW.TrodAll enc Try.prog W 0 (fun _ => true) true Try.f5.params.toList args.toList ds p := hA0
  rw [Try.params5] at hA hval
  obtain ⟨v0, vs0, d0, ds0, p0, q0, hargs, rfl, rfl, h0, r0⟩ := trodAll_cons hA
  obtain ⟨rfl, rfl, rfl⟩ := trodAll_nil r0
  obtain rfl : args = #[v0] := by cases args; simp_all
  obtain ⟨rfl, rfl⟩ := trodVars_none hV
  obtain ⟨a0, n0, c0, rfl⟩ := okWide_slice Try.underlying58 (hval 0 58 v0 rfl rfl)
  have k0 := h0
  have lt0 : ∀ x ∈ p0, x.block < W.heap.size := by obtain ⟨m, hm⟩ := k0; exact DataW.trod_lt m _ _ _ hm
  obtain ⟨z0, w0, e0, l0, s0⟩ : ∃ zs, Reads .i64 W a0 n0 zs ∧ (a0 = none → c0 = 0) ∧ n0 ≤ c0 ∧ (n0 = 0 ∨ ∃ el sp, d0 = .slice el sp ∧ n0 ≤ el.length + sp.length) := by
    obtain ⟨fuel, hf⟩ := h0
    rcases open_ints Try.underlying58 Try.underlying3 (by kernel_rfl) hf with ⟨hcs, hd⟩ | ⟨x, l, c, zs, hcs, _, hl, hm, hz, hd, hcell, hwz⟩
    · simp [Value.cells] at hcs
      obtain ⟨rfl, rfl, rfl⟩ := hcs
      exact ⟨[], Reads.nil _ _, fun _ => rfl, Nat.le_refl _, .inl rfl⟩
    · simp [Value.cells] at hcs
      obtain ⟨rfl, rfl, rfl⟩ := hcs
      exact ⟨_, Reads.of_open hl hm (by simpa using hz) hcell hwz, (fun h => by cases h), hl, .inr ⟨_, _, congrArg Prod.fst hd, open_length (by simpa using hz) hl⟩⟩
  clear hA0 hval0
  refine (walk a0 n0 c0 z0 W w0 e0 l0).mono fun e W' ⟨he, bel⟩ => ?_
  subst he
  exact ⟨_, rfl, _, _, _, [], _, [], hW', trodAll_mk1 (shut_bool Try.underlying4 _), (trodAll_cons_mk (Below.trod laidOut (by kernel_rfl) (of_decide_eq_true (by kernel_rfl)) k0 bel lt0) trodAll_mk0), rfl, bel.frame _, fun h => by cases h⟩

set_option maxRecDepth 100000 in
theorem lifted (os : Os) (started : os.Started) (H : Type) (enc : TypeId × Value → H) :
    ReturnsInHanded {} Try.checked os 5 .any (Rows.shelfOldestSpec.pre6 enc Try.prog Try.f5 Rows.shelfOldestRow.domain false) (Rows.shelfOldestSpec.post enc Try.prog Try.f5 false true false false) := by
  refine returnsInHanded_of_change (C := Try.checked) own started (by kernel_rfl) Try.func5
    (ChangeSpec.witness6 (enc := enc) (C := Try.checked) false ⟨#[], #[.slice none 0 0], []⟩ 8 (by kernel_rfl) (by kernel_rfl) (by kernel_rfl) (by kernel_rfl)) ?_
  intro W base args ds gs before hval hW _ _
  exact contract H enc W base args ds gs before hval hW

theorem over : Rows.shelfOldestRow.holds Try.pinned (OpenSpec.ofChange Rows.shelfOldestSpec) :=
  OpenClaim.holds_of_wide 5 Try.f5 rfl rfl rfl rfl rfl rfl rfl ⟨rfl, rfl, rfl, rfl, rfl⟩ rfl rfl rfl rfl rfl (by kernel_rfl) Try.func5 (by kernel_rfl)
    (of_decide_eq_true (by kernel_rfl)) (by unfold Func.isWrapper; first | (rw [if_pos (by decide +kernel)]; kernel_rfl) | (rw [if_neg (by decide +kernel)]; exact ⟨rfl, rfl⟩))
    (fun os started H enc _ => lifted os started H enc)

theorem proved : Rows.ShelfOldestSaid :=
  over
#print axioms proved
end Go.Proofs.Ytfggkkhehaafcaa.shelfOldest
