/- The examples that the statements ask for first: they come out as they should. -/
import Derived.Test.YtjkjfgmbjcjofaaRows
import Derived.Test.YtjkjfgmbjcjofaaPages
import Derived.Test.YtjkjfgmbjcjofaaView
import Derived.Test.YtjkjfgmbjcjofaaOwn
import Derived.Test.YtjkjfgmbjcjofaaSame
import Derived.Test.YtjkjfgmbjcjofaaWorks
import Derived.Test.YtjkjfgmbjcjofaaReadsP
import Derived.Test.YtjkjfgmbjcjofaaReadsQ
import Derived.Test.YtjkjfgmbjcjofaaCount
import Derived.Test.YtjkjfgmbjcjofaaLeast
import Derived.Test.YtjkjfgmbjcjofaaLays
import Derived.Test.YtjkjfgmbjcjofaaTurns
import Derived.Test.YtjkjfgmbjcjofaaNews
import Derived.Test.YtjkjfgmbjcjofaaGoods
import Derived.WalkKit
import Derived.ProofKit
import Derived.OpenShut
import Derived.Below
import Derived.WalkLawsBesides
import Derived.Deep.QuietTactic
import Derived.BigQuiet
import Derived.Deep.RegionWith
namespace Go.Proofs.Ytjkjfgmbjcjofaa
open Go.ChangeShapes Go.WideShapes Go.ChangeAt Go.RowKit
set_option linter.unusedVariables false

theorem drawn_below {w w' : World} {m : Nat} (h : w' = w.drewN m) : Below w.heap.size w w' := below_drew (Below.refl _ _) ⟨m, h⟩
theorem new_drawn {w w' : World} {o : Obj} {m : Nat} (h : w' = (w.alloc o).drewN m) : Below w.heap.size w w' := below_drew (below_new (Below.refl _ _) _) ⟨m, h⟩

def tA : ByteArray := ⟨#[97]⟩
def tB : ByteArray := ⟨#[98]⟩
def tC : ByteArray := ⟨#[99]⟩
theorem tA_ne : ¬ tA.toList = [] := by simp [tA, ByteArray.toList_eq]
theorem tB_ne : ¬ tB.toList = [] := by simp [tB, ByteArray.toList_eq]
theorem tC_ne : ¬ tC.toList = [] := by simp [tC, ByteArray.toList_eq]

/-- the example's pools, one behind the other -/
def x0 : Pl := newPl 4
def x1 : Pl := { x0 with pg := takeP x0.pg tA 2 4 }
def x2 : Pl := { x1 with pg := upd x1.pg 0 (dropPg (x1.pg 0)) }
def x3 : Pl := { x2 with pg := takeP x2.pg tB 2 4 }
def x4 : Pl := { x3 with aside := 1 }
def x6 : Pl := { x4 with pg := takeP x4.pg tC 1 4, aside := 0 }

theorem x1_take : takeE x0 tA 2 = 0 ∧ takeS x0 tA 2 = x1 ∧ takeR x0 tA 2 = [0, 1] := by
  have e : takeE x0 tA 2 = 0 := by
    unfold takeE
    rw [if_neg (fun h => h.elim tA_ne (by decide)), if_neg (by decide)]
  refine ⟨e, ?_, ?_⟩
  · unfold takeS
    rw [if_pos e]
    rfl
  · unfold takeR
    rw [if_pos e]
    decide
theorem x2_drop : drS x1 0 = x2 := by
  unfold drS
  rw [if_pos (by decide)]
  rfl
theorem x3_take : takeE x2 tB 2 = 0 ∧ takeS x2 tB 2 = x3 ∧ takeR x2 tB 2 = [0, 2] := by
  have e : takeE x2 tB 2 = 0 := by
    unfold takeE
    rw [if_neg (fun h => h.elim tB_ne (by decide)), if_neg (by decide)]
  refine ⟨e, ?_, ?_⟩
  · unfold takeS
    rw [if_pos e]
    rfl
  · unfold takeR
    rw [if_pos e]
    decide
theorem x4_res : resE x3 1 = 0 ∧ resS x3 1 = x4 := by
  have e : resE x3 1 = 0 := by decide
  refine ⟨e, ?_⟩
  unfold resS
  rw [if_pos e]
  rfl
theorem x5_take : takeE x4 tC 1 = 6 ∧ takeS x4 tC 1 = x4 := by
  have e : takeE x4 tC 1 = 6 := by
    unfold takeE
    rw [if_neg (fun h => h.elim tC_ne (by decide)), if_pos (by decide)]
  refine ⟨e, ?_⟩
  unfold takeS
  rw [if_neg (by rw [e]; decide)]
theorem x6_draw : drawE x4 tC 1 = 0 ∧ drawS x4 tC 1 = x6 ∧ drawR x4 tC 1 = [3] := by
  have e : drawE x4 tC 1 = 0 := by
    unfold drawE
    rw [if_neg (fun h => h.elim tC_ne (by decide)), if_neg (by decide)]
  refine ⟨e, ?_, ?_⟩
  · unfold drawS
    rw [if_pos e]
    rfl
  · unfold drawR
    rw [if_pos e]
    decide
theorem x6_tells : x6.n = 4 ∧ freeTo x6.pg 4 = 0 ∧ x6.aside = 0 ∧ owZ x6 3 = 1 := by decide
theorem x6_tag : tagZ x6 1 = tA := rfl
theorem x6_pgs : (x6.pg 0).tag = tB ∧ (x6.pg 1).tag = tA ∧ (x6.pg 2).tag = tB ∧ (x6.pg 3).tag = tC ∧ (x6.pg 0).ow = 1 ∧ (x6.pg 1).ow = 1 ∧ (x6.pg 2).ow = 1 ∧ (x6.pg 3).ow = 1 := ⟨rfl, rfl, rfl, rfl, rfl, rfl, rfl, rfl⟩
theorem x6_cnt : cntTo x6.pg tB 4 = 2 := by
  obtain ⟨a, b, c, d, e, f, g, h⟩ := x6_pgs
  have n1 : ¬ tA.toList = tB.toList := by simp [tA, tB, ByteArray.toList_eq]
  have n2 : ¬ tC.toList = tB.toList := by simp [tC, tB, ByteArray.toList_eq]
  simp [cntTo, a, b, c, d, e, f, g, h, n1, n2]

theorem good0 : Good 5 x0 := good_new 4 5 (by decide) (by decide)
theorem good1 : Good 5 x1 := by rw [← x1_take.2.1]; exact good0.takeS (by decide) _ _
theorem good2 : Good 5 x2 := by rw [← x2_drop]; exact good1.drS _
theorem good3 : Good 5 x3 := by rw [← x3_take.2.1]; exact good2.takeS (by decide) _ _
theorem good4 : Good 5 x4 := by rw [← x4_res.2]; exact good3.resS _

theorem works_call (w : World) : Calls Try.prog 15 #[] w fun e w' => e = .returned (.bool true) ∧ Below w.heap.size w w' := by
  have k7 := new_call 4 (by decide) (by decide)
  have k16a := fun (W : World) b g (h : PoolAt w.heap.size W b g x0) => take_call h good0 tA 2
  have k21 := fun (W : World) b g (h : PoolAt w.heap.size W b g x1) => drop_call h good1 (by decide) 0
  have k16b := fun (W : World) b g (h : PoolAt w.heap.size W b g x2) => take_call h good2 tB 2
  have k17 := fun (W : World) b g (h : PoolAt w.heap.size W b g x3) => reserve_call h good3 1
  have k16c := fun (W : World) b g (h : PoolAt w.heap.size W b g x4) => take_call h good4 tC 1
  have k19 := fun (W : World) b g (h : PoolAt w.heap.size W b g x4) => draw_call h good4 tC 1
  have k22 := fun (W : World) b g (h : PoolAt w.heap.size W b g x6) => sizes_call h (by decide)
  have k12 := fun (W : World) b g (h : PoolAt w.heap.size W b g x6) => count_call h (by decide) tB
  have k24 := fun (W : World) b g (h : PoolAt w.heap.size W b g x6) => tag_call h (by decide) 1
  have k23 := fun (W : World) b g (h : PoolAt w.heap.size W b g x6) => owners_call h (by decide) 3
  simp only [x1_take.1, x1_take.2.1, x1_take.2.2] at k16a
  simp only [x2_drop] at k21
  simp only [x3_take.1, x3_take.2.1, x3_take.2.2] at k16b
  simp only [x4_res.1, x4_res.2] at k17
  simp only [x5_take.1, x5_take.2] at k16c
  simp only [x6_draw.1, x6_draw.2.1, x6_draw.2.2] at k19
  simp only [x6_tells.1, x6_tells.2.1, x6_tells.2.2.1] at k22
  simp only [x6_tells.1, x6_cnt] at k12
  simp only [x6_tag] at k24
  simp only [x6_tells.2.2.2] at k23
  have hb := hidden_ (Below.refl w.heap.size w)
  have qA : (tA.toList == [97]) = true := by simp [tA, ByteArray.toList_eq]
  go_enter Try.func15, Try.ntmps15
  go_wp2_with (first
    | (go_at_call 7; refine (k7 _).mono ?_; rintro e W1 ⟨rfl, hp', hbl⟩; clear k7; have hp := hidden_ (hp' _ (Nat.le_refl _)); replace hb := hidden_ hbl; clear hp' hbl)
    | (go_at_call 16; refine (k16a _ _ _ hp.out).mono ?_; rintro e W2 ⟨a1, l1, c1, rfl, r1', hp', o'⟩; clear k16a; have r1 := hidden_ r1'; replace hp := hidden_ hp'; replace hb := hidden_ (hb.out.trans (o'.below hb.out.size)); clear r1' hp' o')
    | (go_at_call 21; refine (k21 _ _ _ hp.out).mono ?_; rintro e W3 ⟨rfl, hp', o'⟩; clear k21; replace r1 := hidden_ (r1.out.off o' rfl); replace hp := hidden_ hp'; replace hb := hidden_ (hb.out.trans (o'.below hb.out.size)); clear hp' o')
    | (go_at_call 16; refine (k16b _ _ _ hp.out).mono ?_; rintro e W4 ⟨a2, l2, c2, rfl, r2', hp', o'⟩; clear k16b; replace r1 := hidden_ (r1.out.off o' rfl); have r2 := hidden_ r2'; replace hp := hidden_ hp'; replace hb := hidden_ (hb.out.trans (o'.below hb.out.size)); clear r2' hp' o')
    | (go_at_call 17; refine (k17 _ _ _ hp.out).mono ?_; rintro e W5 ⟨rfl, hp', o'⟩; clear k17; replace r1 := hidden_ (r1.out.off o' rfl); replace r2 := hidden_ (r2.out.off o' rfl); replace hp := hidden_ hp'; replace hb := hidden_ (hb.out.trans (o'.below hb.out.size)); clear hp' o')
    | (go_at_call 16; refine (k16c _ _ _ hp.out).mono ?_; rintro e W6 ⟨a3, l3, c3, rfl, r3', hp', o'⟩; clear k16c; replace r1 := hidden_ (r1.out.off o' rfl); replace r2 := hidden_ (r2.out.off o' rfl); replace hp := hidden_ hp'; replace hb := hidden_ (hb.out.trans (o'.below hb.out.size)); clear r3' hp' o')
    | (go_at_call 19; refine (k19 _ _ _ hp.out).mono ?_; rintro e W7 ⟨a4, l4, c4, rfl, r4', hp', o'⟩; clear k19; replace r1 := hidden_ (r1.out.off o' rfl); replace r2 := hidden_ (r2.out.off o' rfl); have r4 := hidden_ r4'; replace hp := hidden_ hp'; replace hb := hidden_ (hb.out.trans (o'.below hb.out.size)); clear r4' hp' o')
    | (go_at_call 22; refine (k22 _ _ _ hp.out).mono ?_; rintro e W8 ⟨rfl, m8, h8⟩; clear k22; have hb' := drawn_below h8; replace r1 := hidden_ (r1.out.below hb'); replace r2 := hidden_ (r2.out.below hb'); replace r4 := hidden_ (r4.out.below hb'); replace hp := hidden_ (hp.out.below hb'); replace hb := hidden_ (below_then hb.out hb'); clear hb' h8)
    | (go_at_call_of 27 a1; refine (same_ints _ _ _ [0, 1] _ _ _ _ ((r1.out.below (below_new (Below.refl _ _) _)).reads) (lit2 .i64 _ 3 _ rfl 0 1 rfl rfl)).mono ?_; rintro e W9 ⟨rfl, m9, h9⟩; have hb' := new_drawn h9; replace r2 := hidden_ (r2.out.below hb'); replace r4 := hidden_ (r4.out.below hb'); replace hp := hidden_ (hp.out.below hb'); replace hb := hidden_ (below_then hb.out hb'); clear hb' h9 r1)
    | (go_at_call_of 27 a2; refine (same_ints _ _ _ [0, 2] _ _ _ _ ((r2.out.below (below_new (Below.refl _ _) _)).reads) (lit2 .i64 _ 3 _ rfl 0 2 rfl rfl)).mono ?_; rintro e W10 ⟨rfl, m10, h10⟩; have hb' := new_drawn h10; replace r4 := hidden_ (r4.out.below hb'); replace hp := hidden_ (hp.out.below hb'); replace hb := hidden_ (below_then hb.out hb'); clear hb' h10 r2)
    | (go_at_call_of 27 a4; refine (same_ints _ _ _ [3] _ _ _ _ ((r4.out.below (below_new (Below.refl _ _) _)).reads) (lit1 .i64 _ 3 _ rfl 3 rfl)).mono ?_; rintro e W11 ⟨rfl, m11, h11⟩; have hb' := new_drawn h11; replace hp := hidden_ (hp.out.below hb'); replace hb := hidden_ (below_then hb.out hb'); clear hb' h11 r4)
    | (go_at_call 12; refine (k12 _ _ _ hp.out).mono ?_; rintro e W12 ⟨rfl, h12⟩; obtain rfl := h12.symm; clear k12)
    | (go_at_call 24; refine (k24 _ _ _ hp.out).mono ?_; rintro e W13 ⟨rfl, h13⟩; obtain rfl := h13.symm; clear k24)
    | (go_at_call 23; refine (k23 _ _ _ hp.out).mono ?_; rintro e W14 ⟨rfl, h14⟩; obtain rfl := h14.symm; clear k23))
  go_ret
  exact ⟨rfl, hb.out⟩

end Go.Proofs.Ytjkjfgmbjcjofaa
