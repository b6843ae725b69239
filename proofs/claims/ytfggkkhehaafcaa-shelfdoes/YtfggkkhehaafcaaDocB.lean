/- Texts put together: DsPinK, DsPinA, DsPinB, DsPinL. -/
import Derived.Test.YtfggkkhehaafcaaRows
import Derived.Test.YtfggkkhehaafcaaPages
import Derived.Test.YtfggkkhehaafcaaView
import Derived.Test.YtfggkkhehaafcaaOwn
import Derived.Test.YtfggkkhehaafcaaReadsP
import Derived.Test.YtfggkkhehaafcaaReadsQ
import Derived.Test.YtfggkkhehaafcaaLeast
import Derived.Test.YtfggkkhehaafcaaLays
import Derived.Test.YtfggkkhehaafcaaRefPg
import Derived.Test.YtfggkkhehaafcaaRefRd
import Derived.Test.YtfggkkhehaafcaaNews
import Derived.Test.YtfggkkhehaafcaaGoods
import Derived.Test.YtfggkkhehaafcaaPlain
import Derived.Test.YtfggkkhehaafcaaNeeds
import Derived.Test.YtfggkkhehaafcaaPlace
import Derived.Test.YtfggkkhehaafcaaFetch
import Derived.Test.YtfggkkhehaafcaaFetched
import Derived.Test.YtfggkkhehaafcaaMapV
import Derived.Test.YtfggkkhehaafcaaShPlain
import Derived.Test.YtfggkkhehaafcaaShActs
import Derived.Test.YtfggkkhehaafcaaShAt
import Derived.Test.YtfggkkhehaafcaaIndex
import Derived.Test.YtfggkkhehaafcaaShLoose
import Derived.Test.YtfggkkhehaafcaaShBring
import Derived.Test.YtfggkkhehaafcaaWorksK
import Derived.Test.YtfggkkhehaafcaaOpenOps
import Derived.Test.YtfggkkhehaafcaaDocA
import Derived.Test.YtfggkkhehaafcaaRelease
import Derived.Test.YtfggkkhehaafcaaRefRel
import Derived.Test.YtfggkkhehaafcaaInvIn
import Derived.WalkKit
import Derived.ProofKit
import Derived.OpenShut
import Derived.Below
import Derived.WalkLawsBesides
import Derived.Deep.QuietTactic
import Derived.BigQuiet
import Derived.Maps.OwnSet
import Derived.Laws.OwnMore
import Derived.Maps.AppendAt
import Derived.OwnWalk
import Derived.Deep.RegionHeld3
import Derived.Test.YtfggkkhehaafcaaPlaces
import Derived.Test.YtfggkkhehaafcaaLies
namespace Go.Proofs.Ytfggkkhehaafcaa

/- The document's shelf: the last part of Pin. -/
section
open Go.ChangeShapes Go.WideShapes Go.ChangeAt Go.RowKit
set_option linter.unusedVariables false
set_option linter.unusedSimpArgs false

theorem off_of {B : Nat} {T : TypeId → Bool} {w w' : World} (o : OffS B T (fun _ => False) w w') : Off B T w w' := ⟨o.os, o.tape, o.output, o.size, fun k hk hc => o.block k hk (hc.imp id fun q => ⟨fun h => h.elim, q⟩)⟩
/-- a block that holds an item -/
def ItAt (w : World) (bx : Nat) (x : DI) : Prop := w.heap[bx]? = some (.cells x.cells.toArray 82 (0, 0))
theorem ItAt.lt {w : World} {bx : Nat} {x : DI} (h : ItAt w bx x) : bx < w.heap.size := (Array.getElem?_eq_some_iff.1 h).1
theorem ItAt.row {w : World} {bx : Nat} {x : DI} (h : ItAt w bx x) : Row 82 w bx 5 := ⟨_, h, rfl⟩
theorem ItAt.cells {w : World} {bx : Nat} {x : DI} (h : ItAt w bx x) : w.cell? ⟨bx, 0, none⟩ = some (.string x.it.nm) ∧ w.cell? ⟨bx, 1, none⟩ = some (.slice x.sw.a x.sw.n x.sw.c) ∧ w.cell? ⟨bx, 2, none⟩ = some (.slice x.sp.a x.sp.n x.sp.c) ∧ w.cell? ⟨bx, 3, none⟩ = some (.bool x.it.is) ∧ w.cell? ⟨bx, 4, none⟩ = some (.int .i64 (x.it.pins : Int)) := by
  refine ⟨?_, ?_, ?_, ?_, ?_⟩ <;> (unfold World.cell?; rw [show w.heap[bx]? = some (.cells x.cells.toArray 82 (0, 0)) from h]; rfl)
theorem ItAt.load {w : World} {bx : Nat} {x : DI} (h : ItAt w bx x) : (Instr.loadAt 82 (.pointer (some ⟨bx, 0, none⟩))).run Try.prog w = .ok (.agg x.cells.toArray) w := by
  obtain ⟨h0, h1, h2, h3, h4⟩ := h.cells
  unfold DI.cells
  clear h
  go_simp
theorem ItAt.keep {w w' : World} {bx : Nat} {x : DI} (h : ItAt w bx x) (e : w'.heap[bx]? = w.heap[bx]?) : ItAt w' bx x := e.trans h
theorem ItAt.set {w : World} {bx : Nat} {x x' : DI} (h : ItAt w bx x) (f : Nat) (u : Value) (e : x'.cells = x.cells.set f u) : ItAt (w.setCell ⟨bx, f, none⟩ u) bx x' := by
  unfold ItAt at h ⊢
  obtain ⟨hl, hg⟩ := Array.getElem?_eq_some_iff.1 h
  rw [e]
  simp [World.setCell, World.setCells, h, hl, Array.getElem_modify_self, hg]
theorem pin_last {B : Nat} {w : World} {y p g : Nat} {a : Option Addr} {c : Nat} {D : List DI} {s : Pl} {r : Nat → Nat} (h : DsAt B w y p a c D) (hr : RefAt B w p g s r) (hB : B ≤ w.heap.size) {K : Nat} {x : DI} (hK : D[K]? = some x) (hl : D.length ≤ 1000) (x' : DI) {bx : Nat} (hbx : ItAt w bx x') (hx' : RowB B w x'.sw.a x'.sw.n x'.sw.c x'.it.W ∧ RowI B w x'.sp.a x'.sp.n x'.sp.c x'.it.P) :
    Calls Try.prog 62 #[.pointer (some ⟨y, 0, none⟩), .int .i64 (K : Int)] w fun e V => e = .returned (.tuple #[]) ∧ ∃ (a1 : Option Addr) (L1 c1 : Nat) (da : Option Addr) (dl dc : Nat) (W1 W2 W3 : World),
      (V.drew.cell? ⟨y, 1, none⟩ = some (.slice a1 L1 c1) ∧ ItAt V.drew bx x') ∧ (W1.cell? ⟨y, 1, none⟩ = some (.slice a1 L1 c1) ∧ ItAt W1 bx x') ∧ (W2.cell? ⟨y, 1, none⟩ = some (.slice a1 L1 c1) ∧ ItAt W2 bx x') ∧
      (Instr.buildSlice 34 1 #[(0, .agg x'.cells.toArray)]).run Try.prog V.drew = .ok (.slice (some ⟨V.heap.size, 0, none⟩) 1 1) W1 ∧
      (Builtin.append_ #[34, 34] 34 #[.slice a1 L1 c1, .slice (some ⟨V.heap.size, 0, none⟩) 1 1]).run Try.prog W1 = .ok (.slice da dl dc) W2 ∧
      (Instr.storeAt 34 (.pointer (some ⟨y, 1, none⟩)) (.slice da dl dc)).run Try.prog W2 = .ok () W3 ∧
      (∃ a' c', DsAt B W3 y p a' c' (D.take K ++ D.drop (K + 1) ++ [x'])) ∧ RefAt B W3 p g s r ∧ Off B TZ w W3 := by
  refine (refOut_call h hB hK hl).mono ?_
  rintro e V ⟨rfl, ⟨a1, c1, hD, hnew⟩, o1⟩
  have o1' := off_of o1
  have hV := hD.drewN 1
  have hx1 : RowB B (V.drewN 1) x'.sw.a x'.sw.n x'.sw.c x'.it.W ∧ RowI B (V.drewN 1) x'.sp.a x'.sp.n x'.sp.c x'.it.P := ⟨hx'.1.off (Off.drewN o1' 1) rfl, hx'.2.off (Off.drewN o1' 1) rfl⟩
  have hb1 : ItAt V.drew bx x' := hbx.keep (o1.row hbx.row rfl (fun h => h))
  have hl1 : (D.take K ++ D.drop (K + 1)).length ≤ 1000 := by rw [List.length_append, List.length_take, List.length_drop]; omega
  obtain ⟨da, dc, W2, x7, f1, f2, hst, hD2, hoff⟩ := hV.more (Nat.le_trans hB o1.size) hl1 x' hx1
  have nb : ∀ k, k < w.heap.size → ¬ blkOf a1 k := fun k hk hb => by have := hnew k hb; omega
  have b1 := below_new (Below.refl (V.drewN 1).heap.size (V.drewN 1)) (.cells x'.cells.toArray 82)
  have hb2 : ItAt ((V.drewN 1).alloc (.cells x'.cells.toArray 82)) bx x' := ItAt.keep hb1 (b1.block bx hb1.lt)
  have o3 : Off B (fun t => t == 36) (V.drewN 1) (W2.setCell ⟨y, 1, none⟩ (.slice da (D.take K ++ D.drop (K + 1) ++ [x']).length dc)) ∨ True := .inr trivial
  have hb4 : ItAt (W2.setCell ⟨y, 1, none⟩ (.slice da (D.take K ++ D.drop (K + 1) ++ [x']).length dc)) bx x' := ItAt.keep hb1 (hoff.row hb1.row rfl (nb bx hbx.lt))
  have hb3 : ItAt W2 bx x' := by
    have hne : bx ≠ y := hb1.row.ne hV.top (by decide)
    exact (Below.heap_setCell W2 ⟨y, 1, none⟩ _ bx hne).symm.trans hb4
  have hz : Off B TZ (V.drewN 1) (W2.setCell ⟨y, 1, none⟩ (.slice da (D.take K ++ D.drop (K + 1) ++ [x']).length dc)) := hV.toZ tz_36 hoff
  have rk : ∀ {t k m}, Row t w k m → (t == 36) = false → (W2.setCell ⟨y, 1, none⟩ (.slice da (D.take K ++ D.drop (K + 1) ++ [x']).length dc)).heap[k]? = w.heap[k]? := fun {t k m} rr ht => by
    have e1 := o1'.row rr ht
    have rr' : Row t (V.drewN 1) k m := rr.of_block e1
    exact (hoff.row rr' ht (nb k rr.lt)).trans e1
  refine ⟨rfl, a1, _, c1, da, _, dc, _, W2, _, ⟨hV.c1, hb1⟩, ⟨f1, hb2⟩, ⟨f2, hb3⟩, run_build34v x' V.drew, x7, hst, ⟨da, dc, hD2⟩, hr.of_blocks (rk hr.top rfl) (rk hr.row rfl) (fun i hi ho => rk (hr.cr i hi ho).1 rfl), ?_⟩
  exact ((Off.drewN o1' 1).widen tz_36).trans hz
end

/- The document's Pin of one that is there. -/
section
open Go.ChangeShapes Go.WideShapes Go.ChangeAt Go.RowKit
set_option linter.unusedVariables false
set_option linter.unusedSimpArgs false

theorem bump_out {D : List DI} {K : Nat} {x x' : DI} (hnd : Nd (itsD D)) (hK : D[K]? = some x) (it : It) (hn : it.nm = x.it.nm) (hx' : x'.it = { it with pins := it.pins + 1 }) : itsD (D.take K ++ D.drop (K + 1) ++ [x']) = bump (itsD D) it := by
  unfold bump
  rw [← hx', hn, ← itsD_out hnd hK]
  simp [itsD]
set_option maxHeartbeats 4000000 in
set_option maxRecDepth 20000 in
theorem refPin_is {B : Nat} {w : World} {y p g cap : Nat} {a : Option Addr} {c : Nat} {D : List DI} {s : Pl} {r : Nat → Nat} (h : DsAt B w y p a c D) (hr : RefAt B w p g s r) (hok : ShOk cap s (itsD D)) (hc : cap ≤ 1000) (hB : B ≤ w.heap.size) (n : ByteArray) {K : Nat} {x : DI} (hK : D[K]? = some x) (hx : x.it.nm = n) (hne : ∀ (j : Nat) (u : DI), j < K → D[j]? = some u → u.it.nm ≠ n) (his : x.it.is = true) :
    Calls Try.prog 32 #[.pointer (some ⟨y, 0, none⟩), .string n] w fun e w' => e = .returned (.int .i64 0) ∧ (∃ a' c' D', DsAt B w' y p a' c' D' ∧ itsD D' = bump (itsD D) x.it) ∧ RefAt B w' p g s r ∧ Off B TZ w w' := by
  have hl : D.length ≤ 1000 := by have := hok.few; unfold itsD at this; rw [List.length_map] at this; omega
  have c1 := h.c1
  have k44 := at_yes h n K x hK hx hne (by omega)
  have hm : x.it ∈ itsD D := List.mem_map.2 ⟨x, List.mem_of_getElem? hK, rfl⟩
  have hpn := hok.pins x.it hm
  obtain ⟨gg, ha, hBg, r1, r2, hKl, cc0, cc1, cc2, cc3, cc4⟩ := h.some_ hK
  subst ha
  have hits := h.its x (List.mem_of_getElem? hK)
  have hbA := below_new (Below.refl w.heap.size w) (.cells x.cells.toArray 82)
  have hb0 : ItAt (w.alloc (.cells x.cells.toArray 82)) w.heap.size x := heap_alloc_new w _
  have hb1 := hb0.set (x' := { x with it := { x.it with pins := x.it.pins + 1 } }) 4 (.int .i64 ((x.it.pins + 1 : Nat) : Int)) rfl
  have hbA2 : Below w.heap.size w ((w.alloc (.cells x.cells.toArray 82)).setCell ⟨w.heap.size, 4, none⟩ (.int .i64 ((x.it.pins + 1 : Nat) : Int))) := hbA.setCell (Nat.le_refl _) _
  have k62 := pin_last (h.below hbA2) (hr.below hbA2) (Nat.le_trans hB hbA2.size) hK hl _ hb1 ⟨hits.1.off (T := fun _ => false) (B' := 0) (Off.of_below hbA2) rfl, hits.2.off (T := fun _ => false) (B' := 0) (Off.of_below hbA2) rfl⟩
  have hfin := bump_out (x' := { x with it := { x.it with pins := x.it.pins + 1 } }) hok.nd hK x.it rfl rfl
  obtain ⟨x', ex'⟩ : ∃ x' : DI, { x with it := { x.it with pins := x.it.pins + 1 } } = x' := ⟨_, rfl⟩
  have HB : Off B TZ w ((w.alloc (.cells x.cells.toArray 82)).setCell ⟨w.heap.size, 4, none⟩ (.int .i64 ((x.it.pins + 1 : Nat) : Int))) := Off.of_below hbA2
  obtain ⟨A2, eA2⟩ : ∃ A2, (w.alloc (.cells x.cells.toArray 82)).setCell ⟨w.heap.size, 4, none⟩ (.int .i64 ((x.it.pins + 1 : Nat) : Int)) = A2 := ⟨_, rfl⟩
  rw [ex'] at hfin
  rw [ex', eA2] at k62
  rw [eA2] at HB
  obtain ⟨BL, eBL⟩ : ∃ BL, bump (itsD D) x.it = BL := ⟨_, rfl⟩
  rw [eBL] at hfin ⊢
  have HF := hidden_ hfin
  replace HB := hidden_ HB
  have f4 : (w.alloc (.cells x.cells.toArray 82)).frozen? ⟨w.heap.size, 4, none⟩ = false := hb0.row.open_ 4
  obtain ⟨d0, d1, d2, d3, d4⟩ := hb0.cells
  obtain ⟨⟨nm, Wt, Pp, is, pins⟩, ⟨wa, wn, wc⟩, ⟨pa, pn, pc⟩⟩ := x
  simp only [DI.cells] at cc0 cc1 cc2 cc3 cc4 eA2 f4 d0 d1 d2 d3 d4 hpn his
  subst his
  obtain ⟨pz, ep⟩ : ∃ pz : Int, (pins : Int) = pz := ⟨_, rfl⟩
  obtain ⟨pz1, ep1⟩ : ∃ pz1 : Int, ((pins + 1 : Nat) : Int) = pz1 := ⟨_, rfl⟩
  rw [ep] at cc4 f4 d0 d1 d2 d3 d4 eA2
  rw [ep1] at eA2
  have hp1 : pz + 1 = pz1 := by omega
  have hp2 : 0 ≤ pz := by omega
  have hp3 : pz ≤ 1000 := by omega
  obtain ⟨A, eA⟩ : ∃ A, w.alloc (.cells #[.string nm, .slice wa wn wc, .slice pa pn pc, .bool true, .int .i64 pz] 82) = A := ⟨_, rfl⟩
  rw [eA] at f4 d0 d1 d2 d3 d4 eA2
  obtain ⟨ob, eob⟩ : ∃ ob, w.heap.size = ob := ⟨_, rfl⟩
  rw [eob] at f4 d0 d1 d2 d3 d4 eA2 k62
  clear h hr hok hc hK hx hne hm hits hbA hb0 hb1 hbA2 hB hBg ex' eBL hfin ep ep1
  go_enter Try.func32, Try.ntmps32
  go_wp2_with (first
    | (go_at_call 44; refine k44.mono ?_; rintro e w' ⟨rfl, h1⟩; obtain rfl := h1.symm; clear k44)
    | (go_at_call 62; refine k62.mono ?_; rintro e V1 ⟨rfl, a1, L1, c1, da, dl, dc, W1, W2, W3, S0, S1, S2, q1, q2, q3, hD, hR, hO⟩; have HD := hidden_ (And.intro hD (And.intro hR hO)); clear k62 hD hR hO))
  refine dn_region y ob V1.heap.size (.agg x'.cells.toArray) a1 L1 c1 da dl dc W1 W2 W3 (fun W => W.cell? ⟨y, 1, none⟩ = some (.slice a1 L1 c1) ∧ ItAt W ob x') (by kernel_rfl) rfl ⟨_, rfl, rfl, rfl, rfl, by kernel_rfl⟩ ⟨_, rfl, rfl, rfl, rfl, by kernel_rfl⟩ ⟨_, rfl, rfl, rfl, rfl, by kernel_rfl⟩ ⟨_, rfl, rfl, rfl, rfl, by kernel_rfl⟩ ⟨_, rfl, rfl, rfl, rfl, by kernel_rfl⟩ ⟨_, rfl, rfl, rfl, rfl, by kernel_rfl⟩ ⟨_, rfl, rfl, rfl, rfl, by kernel_rfl⟩ ⟨_, rfl, rfl, rfl, rfl, by kernel_rfl⟩ ⟨_, rfl, rfl, rfl, rfl, by kernel_rfl⟩ ⟨_, rfl, rfl, rfl, rfl, by kernel_rfl⟩ ⟨_, rfl, rfl, rfl, rfl, by kernel_rfl⟩ 34 (fun o h => by cases h; rfl) S0 S1 S2 (run_field36 y 1 (by decide)) (fun W hW => run_load34 hW.1) (fun W hW => hW.2.load) q1 q2 (run_field36 y 1 (by decide)) q3 rfl rfl (Nat.le_of_ble_eq_true rfl) ?_
  intro Z hs' hd hkp hval
  have ep := frame_puts [69, 70, 71, 72, 73, 74, 75, 76, 77, 78] hs' hd (fun s h => hkp s (fun i hi e => h (by
    rcases (show i = 0 ∨ i = 1 ∨ i = 2 ∨ i = 3 ∨ i = 4 ∨ i = 5 ∨ i = 6 ∨ i = 7 ∨ i = 8 ∨ i = 9 ∨ i = 10 by omega) with rfl | rfl | rfl | rfl | rfl | rfl | rfl | rfl | rfl | rfl | rfl <;> (simp only [dnD, Option.some.injEq, reduceCtorEq] at e <;> (subst e; simp)))))
  simp only [List.foldl] at ep
  generalize Z.tmps.getD 69 undef = g69 at ep
  generalize Z.tmps.getD 70 undef = g70 at ep
  generalize Z.tmps.getD 71 undef = g71 at ep
  generalize Z.tmps.getD 72 undef = g72 at ep
  generalize Z.tmps.getD 73 undef = g73 at ep
  generalize Z.tmps.getD 74 undef = g74 at ep
  generalize Z.tmps.getD 75 undef = g75 at ep
  generalize Z.tmps.getD 76 undef = g76 at ep
  generalize Z.tmps.getD 77 undef = g77 at ep
  generalize Z.tmps.getD 78 undef = g78 at ep
  simp only [Act.put, List.setIfInBounds_toArray, List.set_cons_succ, List.set_cons_zero] at ep
  subst ep
  clear S0 S1 S2 q1 q2 q3 hs' hd hkp hval
  go_wp2
  go_ret
  obtain ⟨⟨a', c', hD⟩, hR, hO⟩ := HD.out
  exact ⟨rfl, ⟨a', c', _, hD, HF.out⟩, hR, HB.out.trans hO⟩
end

/- The document's Pin where there is no room. -/
section
open Go.ChangeShapes Go.WideShapes Go.ChangeAt Go.RowKit
set_option linter.unusedVariables false
set_option linter.unusedSimpArgs false

set_option maxHeartbeats 4000000 in
theorem refPin_no {B : Nat} {w : World} {y p g cap : Nat} {a : Option Addr} {c : Nat} {D : List DI} {s : Pl} {r : Nat → Nat} (h : DsAt B w y p a c D) (hr : RefAt B w p g s r) (hok : ShOk cap s (itsD D)) (hc : cap ≤ 1000) (n : ByteArray) {K : Nat} {x : DI} (hK : D[K]? = some x) (hx : x.it.nm = n) (hne : ∀ (j : Nat) (u : DI), j < K → D[j]? = some u → u.it.nm ≠ n) (his : x.it.is = false) (hroom : roomZ s (itsD D) < needZ x.it.W.length) :
    Calls Try.prog 32 #[.pointer (some ⟨y, 0, none⟩), .string n] w fun e w' => e = .returned (.int .i64 6) ∧ Below w.heap.size w w' := by
  have hl : D.length ≤ 1000 := by have := hok.few; unfold itsD at this; rw [List.length_map] at this; omega
  have c1 := h.c1
  have k44 := at_yes h n K x hK hx hne (by omega)
  have hm : x.it ∈ itsD D := List.mem_map.2 ⟨x, List.mem_of_getElem? hK, rfl⟩
  have hw := (hok.wts x.it hm).1
  obtain ⟨gg, ha, hBg, r1, r2, hKl, cc0, cc1, cc2, cc3, cc4⟩ := h.some_ hK
  subst ha
  have hits := h.its x (List.mem_of_getElem? hK)
  have hwl := hits.1.len
  have hbA := below_new (Below.refl w.heap.size w) (.cells x.cells.toArray 82)
  have hb0 : ItAt (w.alloc (.cells x.cells.toArray 82)) w.heap.size x := heap_alloc_new w _
  have k63 := fun W => refNeed_call (x.sw.n : Int) (by omega) (by omega) W
  have k20 := refRoom_call (h.below hbA) (hr.below hbA) hok hc
  rw [hwl] at hroom
  obtain ⟨d0, d1, d2, d3, d4⟩ := hb0.cells
  have HB := hidden_ hbA
  obtain ⟨RZ, eR⟩ : ∃ RZ, roomZ s (itsD D) = RZ := ⟨_, rfl⟩
  rw [eR] at k20 hroom
  have hwn : x.sw.n ≤ 2000 := by omega
  obtain ⟨⟨nm, Wt, Pp, is, pins⟩, ⟨wa, wn, wc⟩, ⟨pa, pn, pc⟩⟩ := x
  simp only [DI.cells] at cc0 cc1 cc2 cc3 cc4 HB d0 d1 d2 d3 d4 his hroom k63 k20 hwn
  subst his
  obtain ⟨NZ, eN⟩ : ∃ NZ, needZ (wn : Int) = NZ := ⟨_, rfl⟩
  simp only [eN] at k63 hroom
  obtain ⟨pz, ep⟩ : ∃ pz : Int, (pins : Int) = pz := ⟨_, rfl⟩
  rw [ep] at cc4 d0 d1 d2 d3 d4 k20 HB
  obtain ⟨A, eA⟩ : ∃ A, w.alloc (.cells #[.string nm, .slice wa wn wc, .slice pa pn pc, .bool false, .int .i64 pz] 82) = A := ⟨_, rfl⟩
  rw [eA] at d0 d1 d2 d3 d4 k20 HB
  obtain ⟨ob, eob⟩ : ∃ ob, w.heap.size = ob := ⟨_, rfl⟩
  rw [eob] at d0 d1 d2 d3 d4
  clear h hr hok hc hK hx hne hm hits hbA hb0 hBg hw hwl eR eN ep
  go_enter Try.func32, Try.ntmps32
  go_wp2_with (first
    | (go_at_call 44; refine k44.mono ?_; rintro e w' ⟨rfl, h1⟩; obtain rfl := h1.symm; clear k44)
    | (go_at_call 63; refine (k63 _).mono ?_; rintro e w' ⟨rfl, h1⟩; obtain rfl := h1.symm; clear k63)
    | (go_at_call 20; refine k20.mono ?_; rintro e V1 ⟨rfl, m1, h1⟩; have H1 := hidden_ h1; clear k20 h1))
  go_ret
  exact ⟨rfl, below_drew HB.out ⟨m1, H1.out⟩⟩
end

/- The document's Pin: yielding, placing. -/
section
open Go.ChangeShapes Go.WideShapes Go.ChangeAt Go.RowKit
set_option linter.unusedVariables false
set_option linter.unusedSimpArgs false

def PinL (B : Nat) (w : World) (y p g cap : Nat) (a : Option Addr) (c : Nat) (n : ByteArray) (x : DI) (M : Int) (q : Pl × List It) (ob k K1 : Nat) (wr : World) : Prop :=
  ∃ s1 D1 r1 x1, ((itsD D1).filter loose).length < k ∧ DsAt B wr y p a c D1 ∧ RefAt B wr p g s1 r1 ∧ ShOk cap s1 (itsD D1) ∧ M ≤ roomZ s1 (itsD D1) ∧ yieldsAll s1 (itsD D1) M = q ∧ look (itsD D1) n = some x.it ∧ D1[K1]? = some x1 ∧ x1.it.nm = n ∧ ItAt wr ob x ∧ OffS B TR (blkOf a) w wr

theorem PinL.step {B : Nat} {w : World} {y p g cap : Nat} {a : Option Addr} {c : Nat} {n : ByteArray} {x : DI} {M : Int} {q : Pl × List It} {ob k K1 : Nat} {wr : World} (h : PinL B w y p g cap a c n x M q ob k K1 wr) (hc : cap ≤ 1000) (his : x.it.is = false) (hob : ¬ blkOf a ob) :
    ∃ Z : Int, wr.cell? ⟨y, 0, none⟩ = some (.pointer (some ⟨p, 0, none⟩)) ∧ (Calls Try.prog 49 #[.pointer (some ⟨y, 0, none⟩)] wr fun e w' => e = .returned (.int .i64 Z) ∧ ∃ m, w' = wr.drewN m) ∧ (Z < M → 0 < k ∧ ∀ m, Calls Try.prog 41 #[.pointer (some ⟨y, 0, none⟩)] (wr.drewN m) fun e W => e = .returned (.bool true) ∧ ∃ K2 : Nat, (Calls Try.prog 44 #[.pointer (some ⟨y, 0, none⟩), .string n] W fun e w' => e = .returned (.int .i64 (K2 : Int)) ∧ w' = W) ∧ PinL B w y p g cap a c n x M q ob (k - 1) K2 W) ∧ (¬ Z < M → ∃ s1 D1 r1 x1, DsAt B wr y p a c D1 ∧ RefAt B wr p g s1 r1 ∧ ShOk cap s1 (itsD D1) ∧ q = (s1, itsD D1) ∧ look (itsD D1) n = some x.it ∧ D1[K1]? = some x1 ∧ x1.it.nm = n ∧ ItAt wr ob x ∧ OffS B TR (blkOf a) w wr) := by
  obtain ⟨s1, D1, r1, x1, hk, hD, hR, ok, hr, hq, hlk, hK, hx, hb, ho⟩ := h
  refine ⟨hand s1, hD.c0, refHand_call hD hR ok.good, fun hlt => ⟨by omega, fun m => ?_⟩, fun hge => ⟨s1, D1, r1, x1, hD, hR, ok, by rw [← hq, yieldsAll_stop hge], hlk, hK, hx, hb, ho⟩⟩
  obtain ⟨v, hv⟩ := room_loose hlt hr
  obtain ⟨v1, v2, v3⟩ := find_loose hv
  have lv := loose_of v2 v3
  have e1 : yieldB (itsD D1) = true := by unfold yieldB; rw [hv]; rfl
  have e2 : yieldP s1 (itsD D1) = (relS s1 v.P, rel (itsD D1) v.nm) := by unfold yieldP; rw [hv]
  have k41 := refYield_call (hD.drewN m) (hR.drewN m) ok hc
  rw [e1, e2] at k41
  refine k41.mono ?_
  rintro e W ⟨rfl, ⟨D', r', hD', hR', hi'⟩, o'⟩
  simp only at hR' hi'
  have ho' : OffS B TR (blkOf a) wr W := ⟨o'.os, o'.tape, o'.output, o'.size, o'.block⟩
  have ok' := ok.release v1 v3
  have hne : ¬ n = v.nm := fun e => by
    have := look_mem ok.nd v1
    rw [← e, hlk] at this
    rw [Option.some.inj this, v2] at his
    cases his
  have hlk' : look (itsD D') n = some x.it := by
    rw [hi']
    unfold rel
    rw [look_chg gone gone_nm, if_neg hne]
    exact hlk
  obtain ⟨K2, x2, hK2, he2, hn2, hl2, hne2⟩ := look_at hlk'
  have hlen : D'.length ≤ 1000 := by
    have := ok'.few
    rw [← hi'] at this
    unfold itsD at this
    rw [List.length_map] at this
    omega
  refine ⟨rfl, K2, at_yes hD' n K2 x2 hK2 hn2 hne2 (by omega), relS s1 v.P, D', r', x2, ?_, hD', hR', by rw [hi']; exact ok', ?_, ?_, hlk', hK2, hn2, hb.keep (ho'.row hb.row rfl hob), ho.trans ho' (fun _ h => .inl h)⟩
  · rw [hi']
    have := (looseP_rel ok.nd v1 lv).2
    omega
  · rw [hi', room_rel ok v1 lv]; exact hr
  · rw [hi', ← yieldsAll_step ok.nd hlt hv]; exact hq

theorem DsAt.keepS {B : Nat} {w : World} {y p : Nat} {a : Option Addr} {c : Nat} {D : List DI} (h : DsAt B w y p a c D) {w' : World} (hk : ∀ i t, i < w.heap.size → typeOf w i = some t → TD t = true → (t = 82 → blkOf a i) → w'.heap[i]? = w.heap[i]?) : DsAt B w' y p a c D := by
  have kr : ∀ {t i m}, Row t w i m → TD t = true → t ≠ 82 → w'.heap[i]? = w.heap[i]? := fun r hT ht => hk _ _ r.lt r.type hT (fun e => absurd e ht)
  have ey := kr h.top rfl (by decide)
  refine ⟨h.top.of_block ey, h.By, (World.cell?_of_block (w := w) ey).trans h.c0, (World.cell?_of_block (w := w) ey).trans h.c1, own_keep h.own fun k hb => ?_, fun x hx => ⟨(h.its x hx).1.keep fun k hb => ?_, ?_⟩⟩
  · obtain ⟨_, m, r⟩ := own_blk h.own hb
    exact hk k 82 r.lt r.type rfl (fun _ => hb)
  · obtain ⟨_, m, r⟩ := own_blk (h.its x hx).1.own hb
    exact kr r rfl (by decide)
  · have q := (h.its x hx).2
    exact ⟨q.len, own_keep q.own fun k hb => by
      obtain ⟨_, m, r⟩ := own_blk q.own hb
      exact kr r rfl (by decide), q.wf⟩
/-- what Pin does behind the yielding -/
theorem pin_fin {B : Nat} {wr : World} {y p g cap : Nat} {a : Option Addr} {c : Nat} {n : ByteArray} {x x1 : DI} {ob K1 : Nat} {s1 : Pl} {D1 : List DI} {r1 : Nat → Nat} (hD : DsAt B wr y p a c D1) (hR : RefAt B wr p g s1 r1) (ok : ShOk cap s1 (itsD D1)) (hc : cap ≤ 1000) (hlk : look (itsD D1) n = some x.it) (hK : D1[K1]? = some x1) (hx1 : x1.it.nm = n) (hb : ItAt wr ob x) (hB : B ≤ wr.heap.size) (his : x.it.is = false) (hrow : RowB B wr x.sw.a x.sw.n x.sw.c x.it.W) (hE : placeE s1 (plus n) x.it.W = 0) (hBo : B ≤ ob) (hob : ¬ blkOf a ob) (m : Nat) :
    Calls Try.prog 64 #[.pointer (some ⟨p, 0, none⟩), .string (plus n), .slice x.sw.a x.sw.n x.sw.c] (wr.drewN m) fun e V => ∃ la ll lc, e = .returned (.tuple #[.slice la ll lc, .int .i64 0]) ∧ (V.cell? ⟨y, 0, none⟩ = some (.pointer (some ⟨p, 0, none⟩)) ∧ V.cell? ⟨ob, 1, none⟩ = some (.slice x.sw.a x.sw.n x.sw.c)) ∧ V.cell? ⟨ob, 2, none⟩ = some (.slice x.sp.a x.sp.n x.sp.c) ∧ V.frozen? ⟨ob, 2, none⟩ = false ∧ ∃ V1, V.setCell ⟨ob, 2, none⟩ (.slice la ll lc) = V1 ∧ V1.cell? ⟨ob, 3, none⟩ = some (.bool false) ∧ V1.frozen? ⟨ob, 3, none⟩ = false ∧ ∃ V2, V1.setCell ⟨ob, 3, none⟩ (.bool true) = V2 ∧ V2.cell? ⟨ob, 4, none⟩ = some (.int .i64 0) ∧ V2.frozen? ⟨ob, 4, none⟩ = false ∧ ∃ V3 x', V2.setCell ⟨ob, 4, none⟩ (.int .i64 1) = V3 ∧
      (Calls Try.prog 62 #[.pointer (some ⟨y, 0, none⟩), .int .i64 (K1 : Int)] V3 fun e V => e = .returned (.tuple #[]) ∧ ∃ (a1 : Option Addr) (L1 c1 : Nat) (da : Option Addr) (dl dc : Nat) (W1 W2 W3 : World),
      (V.drew.cell? ⟨y, 1, none⟩ = some (.slice a1 L1 c1) ∧ ItAt V.drew ob x') ∧ (W1.cell? ⟨y, 1, none⟩ = some (.slice a1 L1 c1) ∧ ItAt W1 ob x') ∧ (W2.cell? ⟨y, 1, none⟩ = some (.slice a1 L1 c1) ∧ ItAt W2 ob x') ∧
      (Instr.buildSlice 34 1 #[(0, .agg x'.cells.toArray)]).run Try.prog V.drew = .ok (.slice (some ⟨V.heap.size, 0, none⟩) 1 1) W1 ∧
      (Builtin.append_ #[34, 34] 34 #[.slice a1 L1 c1, .slice (some ⟨V.heap.size, 0, none⟩) 1 1]).run Try.prog W1 = .ok (.slice da dl dc) W2 ∧
      (Instr.storeAt 34 (.pointer (some ⟨y, 1, none⟩)) (.slice da dl dc)).run Try.prog W2 = .ok () W3 ∧
      (∃ a' c' D' r', DsAt B W3 y p a' c' D' ∧ itsD D' = bump (itsD D1) (laidIt s1 x.it) ∧ RefAt B W3 p g (placeS s1 (plus x.it.nm) x.it.W) r') ∧ Off B TZ wr W3) := by
  obtain ⟨hmem, hnm⟩ := look_some hlk
  have hoff := ok.off x.it hmem his
  have hl : D1.length ≤ 1000 := by have := ok.few; unfold itsD at this; rw [List.length_map] at this; omega
  have kP := refPlaced_call (hR.drewN m) hB ok.good (Nat.le_refl _) (plus n) x.sw.a x.sw.n x.sw.c x.it.W (fun w' o => (hrow.off (Off.of_drawn o rfl) rfl).reads)
  rw [hE] at kP
  refine kP.mono ?_
  rintro e V ⟨la, ll, lc, rfl, lrow, ⟨r', hR'⟩, o⟩
  have o' : Off B TR wr V := Off.of_drawn o rfl
  have hDV := hD.off o' rfl rfl rfl rfl
  have hbV : ItAt V ob x := hb.keep (o'.row hb.row rfl)
  obtain ⟨d0, d1, d2, d3, d4⟩ := hbV.cells
  have b1 := hbV.set (x' := { x with sp := ⟨la, ll, lc⟩ }) 2 (.slice la ll lc) rfl
  have b2 := b1.set (x' := ⟨{ x.it with is := true }, x.sw, ⟨la, ll, lc⟩⟩) 3 (.bool true) rfl
  have b3 := b2.set (x' := ⟨{ laidIt s1 x.it with pins := 1 }, x.sw, ⟨la, ll, lc⟩⟩) 4 (.int .i64 1) (by simp [DI.cells, laidIt])
  have S : OffS B (fun _ => false) (fun k => k = ob) V (((V.setCell ⟨ob, 2, none⟩ (.slice la ll lc)).setCell ⟨ob, 3, none⟩ (.bool true)).setCell ⟨ob, 4, none⟩ (.int .i64 1)) := ((OffS.set (S := fun k => k = ob) hBo rfl _ _).trans (OffS.set (S := fun k => k = ob) hBo rfl _ _) (fun _ h => .inl h)).trans (OffS.set (S := fun k => k = ob) hBo rfl _ _) (fun _ h => .inl h)
  have nrow : ∀ {t k mm}, Row t V k mm → t ≠ 82 → ¬ k = ob := fun {t k mm} rr ht e => rr.ne hbV.row ht e
  have kk : ∀ i t, i < V.heap.size → typeOf V i = some t → i ≠ ob → (((V.setCell ⟨ob, 2, none⟩ (.slice la ll lc)).setCell ⟨ob, 3, none⟩ (.bool true)).setCell ⟨ob, 4, none⟩ (.int .i64 1)).heap[i]? = V.heap[i]? := fun i t hi ht hne => S.block i hi (.inr ⟨hne, fun _ _ => rfl⟩)
  obtain ⟨V3, eV3⟩ : ∃ V3, ((V.setCell ⟨ob, 2, none⟩ (.slice la ll lc)).setCell ⟨ob, 3, none⟩ (.bool true)).setCell ⟨ob, 4, none⟩ (.int .i64 1) = V3 := ⟨_, rfl⟩
  rw [eV3] at b3 S kk
  have kr : ∀ {t k mm}, Row t V k mm → t ≠ 82 → V3.heap[k]? = V.heap[k]? := fun {t k mm} rr ht => kk k t rr.lt rr.type (nrow rr ht)
  have hD3 : DsAt B V3 y p a c D1 := hDV.keepS fun i t hi ht _ hr => kk i t hi ht (fun e => by
    subst e
    have := hbV.row.type
    rw [ht] at this
    exact hob (hr (Option.some.inj this)))
  have hR3 : RefAt B V3 p g (placeS s1 (plus n) x.it.W) r' := hR'.of_blocks (kr hR'.top (by decide)) (kr hR'.row (by decide)) (fun i hi ho => kr (hR'.cr i hi ho).1 (by decide))
  have hw3 : RowB B V3 x.sw.a x.sw.n x.sw.c x.it.W := by
    have q := hrow.off o' rfl
    exact q.keep fun k hk => by
      obtain ⟨_, mm, rr⟩ := own_blk q.own hk
      exact kr rr (by decide)
  have hp3 : RowI B V3 la ll lc (placeR s1 (plus n) x.it.W) := by
    have q := lrow.mono hB
    exact ⟨q.len, own_keep q.own fun k hk => by
      obtain ⟨_, mm, rr⟩ := own_blk q.own hk
      exact kr rr (by decide), q.wf⟩
  have hS3 : Off B TZ V V3 := ⟨S.os, S.tape, S.output, S.size, fun k hk hcc => S.block k hk (hcc.imp id fun q => ⟨(fun e => by
    have e' : k = ob := e
    subst e'
    have := q _ hbV.row.type
    cases this), fun _ _ => rfl⟩)⟩
  have hB3 : B ≤ V3.heap.size := Nat.le_trans hB (Nat.le_trans o'.size S.size)
  have k62 := pin_last hD3 hR3 hB3 hK hl _ b3 ⟨hw3, by show RowI B V3 la ll lc (placeR s1 (plus x.it.nm) x.it.W); rw [hnm]; exact hp3⟩
  have hfin : itsD (D1.take K1 ++ D1.drop (K1 + 1) ++ [⟨{ laidIt s1 x.it with pins := 1 }, x.sw, ⟨la, ll, lc⟩⟩]) = bump (itsD D1) (laidIt s1 x.it) := bump_out ok.nd hK (laidIt s1 x.it) (by show x.it.nm = x1.it.nm; rw [hnm, hx1]) (by show _ = { laidIt s1 x.it with pins := x.it.pins + 1 }; rw [hoff.2])
  have e3 := b1.cells.2.2.2.1
  have e4 := b2.cells.2.2.2.2
  simp only at e3 e4
  rw [his] at e3
  rw [hoff.2] at e4
  refine ⟨la, ll, lc, rfl, ⟨hDV.c0, d1⟩, d2, hbV.row.open_ 2, _, rfl, e3, b1.row.open_ 3, _, rfl, e4, b2.row.open_ 4, V3, ⟨{ laidIt s1 x.it with pins := 1 }, x.sw, ⟨la, ll, lc⟩⟩, eV3, k62.mono ?_⟩
  rintro e U ⟨rfl, a1, L1, c1, da, dl, dc, W1, W2, W3, S0, S1, S2, q1, q2, q3, ⟨a', c', hDD⟩, hRR, hOO⟩
  refine ⟨rfl, a1, L1, c1, da, dl, dc, W1, W2, W3, S0, S1, S2, q1, q2, q3, ⟨a', c', _, r', hDD, hfin, by rw [hnm]; exact hRR⟩, ((o'.widen tz_tr).trans hS3).trans hOO⟩
end

end Go.Proofs.Ytfggkkhehaafcaa
