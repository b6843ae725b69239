/- Of any row (longer ones than 300 are passed over) the same number more for all changes no order of its places, and a number put behind that is less than all stands last; the row is as it was; no condition. -/
import Derived.Test.YtefkbfmckoidaaaRows
import Derived.Test.YtefkbfmckoidaaaView
import Derived.Test.YtefkbfmckoidaaaOwn
import Derived.Test.YtefkbfmckoidaaaSteps
import Derived.Test.YtefkbfmckoidaaaSame
import Derived.Test.YtefkbfmckoidaaaWhere
import Derived.Test.YtefkbfmckoidaaaOrder
import Derived.Test.YtefkbfmckoidaaaRank
import Derived.Test.YtefkbfmckoidaaaTop
import Derived.Test.YtefkbfmckoidaaaRefTop
import Derived.Test.YtefkbfmckoidaaaLooks
import Derived.Test.YtefkbfmckoidaaaMoved
import Derived.WalkKit
import Derived.ProofKit
import Derived.OpenShut
import Derived.ChangeOld
import Derived.Below
import Derived.Deep.QuietTactic
import Derived.BigQuiet
import Derived.Lib.QuietBelow
import Derived.WalkLawsBesides
namespace Go.Proofs.Ytefkbfmckoidaaa.pickMoved
open Go.ChangeShapes Go.WideShapes Go.ChangeAt Go.RowKit
set_option linter.unusedVariables false
set_option linter.unusedSimpArgs false

theorem own : ownKnob Try.prog.godebug = none := by kernel_rfl
theorem laidOut : laidOutB Try.prog = true := by kernel_rfl

def partF (z : List Int) (j : Nat) : Int := (z.getD j 0).tmod 1099511627776

theorem wf_row (F : Nat → Int) (n : Nat) (h : ∀ j, -9223372036854775808 ≤ F j ∧ F j ≤ 9223372036854775807) : ∀ z ∈ rowOf F n, (Lit.int .i64 z).wf = true := by
  intro z hz
  obtain ⟨j, _, rfl⟩ := List.mem_map.1 hz
  exact WalkArith.wf_i64 (h j)

/-- a gathered row reads as its numbers -/
theorem gath_reads {w : World} {B n : Nat} {v : Value} {F : Nat → Int} (h : w.ownsRow B 2 1 v n (gath F .i64 n)) (hF : ∀ j, -9223372036854775808 ≤ F j ∧ F j ≤ 9223372036854775807) :
    ∃ a c, v = .slice a n c ∧ Reads .i64 w a n (rowOf F n) ∧ (a = none → c = 0) := by
  obtain ⟨a, c, rfl, r⟩ := own_reads (k := .i64) (zs := rowOf F n) h (rowOf_length _ _) (wf_row F n hF) (fun j hj => by rw [gath_at _ _ _ _ hj, rowOf_at _ _ _ hj])
  exact ⟨a, c, rfl, r, own_none h⟩

/-- a row copied, and one number more behind it -/
theorem snoc_reads {w : World} {B n : Nat} {v : Value} {zs : List Int} {y : Int} (h : w.ownsRow B 2 1 v (0 + n + 1) (([] ++ zs.map (Value.int .i64)) ++ [.int .i64 y])) (hl : zs.length = n) (hw : ∀ z ∈ zs, (Lit.int .i64 z).wf = true) (hy : (Lit.int .i64 y).wf = true) :
    ∃ a c, v = .slice a (n + 1) c ∧ Reads .i64 w a (n + 1) (zs ++ [y]) := by
  rw [Nat.zero_add, List.nil_append] at h
  refine own_reads (k := .i64) (zs := zs ++ [y]) h (by simp [hl]) (fun z hz => ?_) (fun j hj => ?_)
  · rcases List.mem_append.1 hz with e | e
    · exact hw z e
    · obtain rfl : z = y := by simpa using e
      exact hy
  · by_cases hj' : j < n
    · rw [List.getElem?_append_left (by rw [List.length_map, hl]; exact hj'), copy_at .i64 zs j (by rw [hl]; exact hj'), snoc_old zs y j (by rw [hl]; exact hj')]
    · obtain rfl : j = n := by omega
      rw [show j = (zs.map (Value.int .i64)).length by rw [List.length_map, hl], List.getElem?_append_right (Nat.le_refl _), List.length_map, snoc_new]
      simp

theorem top_all (xs : List Int) (n : Nat) (h : xs.length = n) : topZ xs n = allZ xs := by
  rw [topZ_all, Int.toNat_natCast, List.take_of_length_le (by rw [allZ_length, h]; exact Nat.le_refl _)]

theorem reads_front {w : World} {y : Addr} {n : Nat} {L : List Int} {z : Int} (h : Reads .i64 w (some y) (n + 1) (L ++ [z])) (hl : L.length = n) : Reads .i64 w (some y) n L := by
  have := h.cut 0 n (by omega)
  rw [List.drop_zero, List.take_left' hl] at this
  simpa [Addr.add] using this

theorem reads_last {w : World} {y : Addr} {n : Nat} {L : List Int} {z : Int} (h : Reads .i64 w (some y) (n + 1) (L ++ [z])) (hl : L.length = n) : w.cell? (y.add n) = some (.int .i64 z) := by
  have := h.cell y rfl n (by omega)
  rw [← hl, snoc_new] at this
  rw [← hl]
  exact this


set_option maxHeartbeats 4000000 in
set_option maxRecDepth 20000 in
theorem walk (a0 : Option Addr) (n0 c0 : Nat) (z0 : List Int) (a1 : Int) (w : World) (w0 : Reads .i64 w a0 n0 z0) (e0 : a0 = none → c0 = 0) (l0 : n0 ≤ c0) (w1 : (Lit.int .i64 a1).wf = true) :
    Calls Try.prog 6 #[.slice a0 n0 c0, .int .i64 a1] w fun e w' => e = .returned (.bool true) ∧ Below w.heap.size w w' := by
  obtain ⟨i0, hi, hz0, hz1, hz2⟩ := info_parts info2
  have hm := w0.max
  have hl := w0.len
  by_cases h : 300 < n0
  · have h' : (300 : Int) < (n0 : Int) := by omega
    go_enter Try.func6, Try.ntmps6
    go_wp2_with (go_at_call 15; refine (works_call _).mono ?_; rintro e W1 ⟨rfl, hb1⟩)
    go_ret
    exact ⟨rfl, hb1⟩
  have hn : n0 ≤ 300 := by omega
  have hn' : (n0 : Int) ≤ 300 := by omega
  have bB := tmod_bounds a1
  obtain ⟨B, eB⟩ : ∃ B, a1.tmod 1099511627776 = B := ⟨_, rfl⟩
  rw [eB] at bB
  obtain ⟨bB0, bB1⟩ := bB
  have bF : ∀ j, -1099511627776 < partF z0 j ∧ partF z0 j < 1099511627776 := fun j => tmod_bounds _
  have bLow := lowZ_bounds (partF z0) bF
  have mF : Hid (∀ j, -9223372036854775808 ≤ partF z0 j ∧ partF z0 j ≤ 9223372036854775807) := fun j => by have := bF j; omega
  have mG : Hid (∀ j, -9223372036854775808 ≤ partF z0 j + B ∧ partF z0 j + B ≤ 9223372036854775807) := fun j => by have := bF j; omega
  go_enter Try.func6, Try.ntmps6
  go_wp2_with (go_at_call 15; refine (works_call _).mono ?_; rintro e W1 ⟨rfl, hb1⟩)
  go_loopw [5, 6, 7, 8] (fun p q l i wr => ∃ k : Nat, k ≤ n0 ∧ i = .int .i64 k ∧ l = .int .i64 (lowZ (partF z0) k) ∧ Below w.heap.size w wr ∧ wr.ownsRow w.heap.size 2 1 p k (gath (partF z0) .i64 k) ∧ wr.ownsRow w.heap.size 2 1 q k (gath (fun j => partF z0 j + B) .i64 k) ∧ Apart p q)
    (fun _ _ _ i _ => n0 - (intOf i).toNat)
  case atStart => exact ⟨0, Nat.zero_le _, rfl, rfl, hb1, World.ownsRow_nil _ _ _ _, World.ownsRow_nil _ _ _ _, Apart.nil _⟩
  case round =>
    obtain ⟨k, hk, rfl, rfl, hbr, oa, ob, hap⟩ := hrel
    clear hb1
    have bl := bLow k
    by_cases hlt : k < n0
    · obtain ⟨x, rfl⟩ := w0.some_ (by omega)
      have cx := (w0.below hbr).cell x rfl k hlt
      have eL : lowZ (partF z0) (k + 1) = min (lowZ (partF z0) k) (partF z0 k) := rfl
      have bV := bF k
      have eV : (z0.getD k 0).tmod 1099511627776 = partF z0 k := rfl
      have E0 : Hid (partF z0 k = partF z0 k) := rfl
      obtain ⟨V, eV'⟩ : ∃ V, partF z0 k = V := ⟨_, rfl⟩
      have HV : Hid (partF z0 k = V) := eV'
      rw [eV'] at eL bV eV
      obtain ⟨X, eX⟩ : ∃ X, z0.getD k 0 = X := ⟨_, rfl⟩
      rw [eX] at eV cx
      obtain ⟨Lo, eLo⟩ : ∃ Lo, lowZ (partF z0) k = Lo := ⟨_, rfl⟩
      rw [eLo] at eL bl ⊢
      have EL : Hid (lowZ (partF z0) (k + 1) = min Lo V) := eL
      obtain ⟨bV0, bV1⟩ := bV
      obtain ⟨bl0, bl1⟩ := bl
      have hsz := hbr.size
      clear eV' eX eLo eL bLow bF E0 w0 mF mG
      go_wp2_with (first
        | (at_builtin; refine wpList_append_where rfl (.tmp 30) (.tmp 32) 22 rfl w.heap.size 2 i0 (.int .i64 0) 8 Try.underlying22 hi hz0 hz1 hz2 rfl _ k _ rfl (oa.alloc _) ⟨_, 0, none⟩ 1 (.int .i64 V) rfl (one_new _ _ _) (one_oneCell _ _) (by unfold maxLen; omega) (by omega) (below_new hbr _).size ?_; intro p' W4 ho4 hg4 hs4; have hb4 := below_append (below_new hbr _) (oa.alloc _) hg4; have ob4 := other_kept (v' := p') (ob.alloc _) hap.symm hg4; have ap4 := other_apart (ob.alloc _) hap.symm hs4; clear hg4 hs4)
        | (at_builtin; refine wpList_append_where rfl (.tmp 34) (.tmp 38) 22 rfl w.heap.size 2 i0 (.int .i64 0) 8 Try.underlying22 hi hz0 hz1 hz2 rfl _ k _ rfl (ob4.alloc _) ⟨_, 0, none⟩ 1 (.int .i64 (V + B)) rfl (one_new _ _ _) (one_oneCell _ _) (by unfold maxLen; omega) (by omega) (below_new hb4 _).size ?_; intro q' W5 ho5 hg5 hs5; have hb5 := below_append (below_new hb4 _) (ob4.alloc _) hg5; have oa5 := other_kept (v' := q') (ho4.alloc _) ap4.symm hg5; have ap5 := other_apart (ho4.alloc _) ap4.symm hs5; clear hg5 hs5))
      go_roundw
      case rel => exact ⟨k + 1, by omega, by go_num, by rw [EL.out], hb5, by rw [gath_succ, HV.out]; exact oa5, by rw [gath_succ]; show W5.ownsRow _ _ _ _ _ (_ ++ [.int .i64 (partF z0 k + B)]); rw [HV.out]; exact ho5, ap5⟩
      case measure => simp [intOf]; omega
    · have e : k = n0 := by omega
      subst e
      obtain ⟨pa, ca, rfl, ra, ea⟩ := gath_reads oa mF.out
      obtain ⟨pb, cb, rfl, rb, eb⟩ := gath_reads ob mG.out
      have kA := fun W (r : Reads .i64 W pa k (rowOf (partF z0) k)) => top_call pa k ca _ k W r (by omega)
      have kB := fun W (r : Reads .i64 W pb k (rowOf (fun j => partF z0 j + B) k)) => top_call pb k cb _ k W r (by omega)
      have kC := fun p q W (r : Reads .i64 W p (k + 1) (rowOf (partF z0) k ++ [lowZ (partF z0) k - 1])) => top_call p (k + 1) q _ ((k : Int) + 1) W r (by omega)
      rw [top_all _ k (rowOf_length _ _), Int.toNat_natCast, Nat.min_self] at kA
      rw [top_all _ k (rowOf_length _ _), Int.toNat_natCast, Nat.min_self, rowOf_moved] at kB
      rw [show ((k : Int) + 1).toNat = k + 1 by omega, Nat.min_self, show topZ (rowOf (partF z0) k ++ [lowZ (partF z0) k - 1]) ((k : Int) + 1) = allZ (rowOf (partF z0) k) ++ [(k : Int)] by
        rw [show ((k : Int) + 1) = ((k + 1 : Nat) : Int) by omega, top_all _ (k + 1) (by simp [rowOf_length]), allZ_snoc _ _ (fun j hj => by rw [rowOf_length] at hj; rw [rowOf_at _ _ _ hj]; have := lowZ_le (partF z0) k j hj; omega), rowOf_length]] at kC
      have wfZ := wf_row (partF z0) k mF.out
      have lZ := rowOf_length (partF z0) k
      obtain ⟨Z, eZ⟩ : ∃ Z, rowOf (partF z0) k = Z := ⟨_, rfl⟩
      obtain ⟨Lo, eLo⟩ : ∃ Lo, lowZ (partF z0) k = Lo := ⟨_, rfl⟩
      rw [eZ] at kA kB kC ra wfZ lZ
      rw [eLo] at kC bl ⊢
      obtain ⟨Zb, eZb⟩ : ∃ Zb, rowOf (fun j => partF z0 j + B) k = Zb := ⟨_, rfl⟩
      rw [eZb] at kB rb
      have lL : (allZ Z).length = k := by rw [allZ_length, lZ]
      obtain ⟨L, eL⟩ : ∃ L, allZ Z = L := ⟨_, rfl⟩
      rw [eL] at kA kB kC lL
      obtain ⟨bl0, bl1⟩ := bl
      have wfLo : (Lit.int .i64 (Lo - 1)).wf = true := WalkArith.wf_i64 (by omega)
      clear eZ eLo eZb eL oa ob hap bLow bF mF mG eB
      go_wp2_with (first
        | (go_at_call_of 10 pa; refine (kA _ ra).mono ?_; rintro e W2 ⟨⟨p2, q2, rfl, r2, -⟩, hb2⟩; replace ra := ra.below hb2; replace rb := rb.below hb2; replace hbr := below_then hbr hb2; clear hb2)
        | (go_at_call_of 10 pb; refine (kB _ rb).mono ?_; rintro e W3 ⟨⟨p3, q3, rfl, r3, -⟩, hb3⟩; replace ra := ra.below hb3; replace r2 := r2.below hb3; replace hbr := below_then hbr hb3; clear hb3 rb)
        | (go_at_call_of 9 p3; refine (same_ints _ _ _ L _ _ _ _ r2 r3).mono ?_; rintro e W4 ⟨rfl, hq⟩; replace ra := ra.below (below_drew (Below.refl _ _) hq); replace r2 := r2.below (below_drew (Below.refl _ _) hq); replace hbr := below_drew hbr hq; clear hq r3)
        | (at_builtin; refine wpList_copy rfl (.tmp 54) (.tmp 55) 22 rfl W4.heap.size 2 i0 (.int .i64 0) 8 Try.underlying22 hi hz0 hz1 hz2 rfl _ 0 [] rfl (World.ownsRow_lit _ #[] 0 (Nat.le_refl _) (by decide) rfl) .i64 pa k ca Z rfl (ra.below (below_new (Below.refl _ _) _)) ea (by unfold maxLen; omega) (by omega) (below_new (Below.refl _ _) _).size ?_; intro v5 W5 ho5 hg5; have hb5 := copied_from (Below.refl W4.heap.size W4) _ ho5 hg5; clear hg5)
        | (at_builtin; refine wpList_append_own _ rfl (.tmp 56) (.tmp 59) 22 rfl W4.heap.size 2 i0 (.int .i64 0) 1 8 Try.underlying22 hi hz0 hz1 hz2 rfl (by decide) _ _ _ rfl (ho5.alloc _) ⟨_, 0, none⟩ 1 1 [.int .i64 (Lo - 1)] rfl rfl (one_new _ _ _) (one_oneCell _ _) (by unfold maxLen; omega) (by omega) (below_new hb5 _).size ?_; intro v6 W6 ho6 hg6 _; have hb6 := below_append (below_new hb5 _) (ho5.alloc _) hg6; obtain ⟨p6, q6, rfl, r6⟩ := snoc_reads ho6 lZ wfZ wfLo; clear ho6 hg6 ho5 hb5)
        | (go_at_call_of 10 p6; refine (kC _ _ _ r6).mono ?_; rintro e W7 ⟨⟨p7, q7, rfl, r7, -, l7⟩, hb7⟩; replace r2 := r2.below (below_then hb6 hb7); replace hbr := below_then hbr (below_then hb6 hb7); obtain ⟨y7, rfl⟩ := r7.some_ (by omega); have r7' := reads_front r7 lL; have c7 := reads_last r7 lL; clear hb7 hb6 r6)
        | (go_at_call_of 9 y7; refine (same_ints _ _ _ L _ _ _ _ r7' r2).mono ?_; rintro e W8 ⟨rfl, hq⟩; replace c7 := below_cell (below_drew (Below.refl _ _) hq) c7; replace hbr := below_drew hbr hq; clear hq r7' r2 r7))
      go_ret
      exact ⟨rfl, hbr⟩

theorem contract (H : Type) (enc : TypeId × Value → H) (W : World) (base : Nat) (args : Array Value) (ds gs : List (DataW H)) (before : List MemPlace)
    (hval0 : ∀ (j : Nat) t v, Try.f6.params[j]? = some t → args[j]? = some v → Value.okWide Try.prog W .any base t v)
    (hW : DataW.Whole enc Try.prog Try.f6.params.toList Rows.pickMovedSpec.vars false W args.toList ds gs before) :
    Calls Try.prog 6 args W fun e W' => ∃ v, e = .returned v ∧ Rows.pickMovedSpec.post enc Try.prog Try.f6 false true false false W args v W' := by
  have hval : ∀ (j : Nat) t v, Try.f6.params[j]? = some t → args[j]? = some v → Value.okWide Try.prog W .any base t v := hval0
  have hW' := hW
  obtain ⟨p, q, hA0, hV, rfl, hfz, hnd⟩ := hW
  have hA : DataW.TrodAll enc Try.prog W 0 (fun _ => true) true Try.f6.params.toList args.toList ds p := hA0
  rw [Try.params6] at hA hval
  obtain ⟨v0, vs0, d0, ds0, p0, q0, hargs, rfl, rfl, h0, r0⟩ := trodAll_cons hA
  obtain ⟨v1, vs1, d1, ds1, p1, q1, rfl, rfl, rfl, h1, r1⟩ := trodAll_cons r0
  obtain ⟨rfl, rfl, rfl⟩ := trodAll_nil r1
  obtain rfl : args = #[v0, v1] := by cases args; simp_all
  obtain ⟨rfl, rfl⟩ := trodVars_none hV
  obtain ⟨a0, n0, c0, rfl⟩ := okWide_slice Try.underlying22 (hval 0 22 v0 rfl rfl)
  have k0 := h0
  have lt0 : ∀ x ∈ p0, x.block < W.heap.size := by obtain ⟨m, hm⟩ := k0; exact DataW.trod_lt m _ _ _ hm
  obtain ⟨z0, w0, e0, l0, s0⟩ : ∃ zs, Reads .i64 W a0 n0 zs ∧ (a0 = none → c0 = 0) ∧ n0 ≤ c0 ∧ (n0 = 0 ∨ ∃ el sp, d0 = .slice el sp ∧ n0 ≤ el.length + sp.length) := by
    obtain ⟨fuel, hf⟩ := h0
    rcases open_ints Try.underlying22 Try.underlying2 (by kernel_rfl) hf with ⟨hcs, hd⟩ | ⟨x, l, c, zs, hcs, _, hl, hm, hz, hd, hcell, hwz⟩
    · simp [Value.cells] at hcs
      obtain ⟨rfl, rfl, rfl⟩ := hcs
      exact ⟨[], Reads.nil _ _, fun _ => rfl, Nat.le_refl _, .inl rfl⟩
    · simp [Value.cells] at hcs
      obtain ⟨rfl, rfl, rfl⟩ := hcs
      exact ⟨_, Reads.of_open hl hm (by simpa using hz) hcell hwz, (fun h => by cases h), hl, .inr ⟨_, _, congrArg Prod.fst hd, open_length (by simpa using hz) hl⟩⟩
  obtain ⟨a1, rfl, rfl, rfl, w1⟩ := open_int Try.underlying2 (hval 1 2 v1 rfl rfl) h1
  clear hA0 hval0
  refine (walk a0 n0 c0 z0 a1 W w0 e0 l0 w1).mono fun e W' ⟨he, bel⟩ => ?_
  subst he
  exact ⟨_, rfl, _, _, _, [], _, [], hW', trodAll_mk1 (shut_bool Try.underlying4 _), (trodAll_cons_mk (Below.trod laidOut (by kernel_rfl) (of_decide_eq_true (by kernel_rfl)) k0 bel lt0) (trodAll_cons_mk (shut_int Try.underlying2 w1) trodAll_mk0)), rfl, bel.frame _, fun h => by cases h⟩

set_option maxRecDepth 100000 in
theorem lifted (os : Os) (started : os.Started) (H : Type) (enc : TypeId × Value → H) :
    ReturnsInHanded {} Try.checked os 6 .any (Rows.pickMovedSpec.pre6 enc Try.prog Try.f6 Rows.pickMovedRow.domain false) (Rows.pickMovedSpec.post enc Try.prog Try.f6 false true false false) := by
  refine returnsInHanded_of_change (C := Try.checked) own started (by kernel_rfl) Try.func6
    (ChangeSpec.witness6 (enc := enc) (C := Try.checked) false ⟨#[], #[.slice none 0 0, .int .i64 0], []⟩ 8 (by kernel_rfl) (by kernel_rfl) (by kernel_rfl) (by kernel_rfl)) ?_
  intro W base args ds gs before hval hW _ _
  exact contract H enc W base args ds gs before hval hW

theorem over : Rows.pickMovedRow.holds Try.pinned (OpenSpec.ofChange Rows.pickMovedSpec) :=
  OpenClaim.holds_of_wide 6 Try.f6 rfl rfl rfl rfl rfl rfl rfl ⟨rfl, rfl, rfl, rfl, rfl⟩ rfl rfl rfl rfl rfl (by kernel_rfl) Try.func6 (by kernel_rfl)
    (of_decide_eq_true (by kernel_rfl)) (by unfold Func.isWrapper; first | (rw [if_pos (by decide +kernel)]; kernel_rfl) | (rw [if_neg (by decide +kernel)]; exact ⟨rfl, rfl⟩))
    (fun os started H enc _ => lifted os started H enc)

theorem proved : Rows.PickMovedSaid :=
  over
#print axioms proved
end Go.Proofs.Ytefkbfmckoidaaa.pickMoved
