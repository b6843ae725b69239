/- The examples that the statements ask for first: they come out as they should. -/
import Derived.Test.YtjbocoheognneaaRows
import Derived.Test.YtjbocoheognneaaPages
import Derived.Test.YtjbocoheognneaaView
import Derived.Test.YtjbocoheognneaaOwn
import Derived.Test.YtjbocoheognneaaSame
import Derived.Test.YtjbocoheognneaaWorks
import Derived.Test.YtjbocoheognneaaReadsP
import Derived.Test.YtjbocoheognneaaReadsQ
import Derived.Test.YtjbocoheognneaaCount
import Derived.Test.YtjbocoheognneaaLeast
import Derived.Test.YtjbocoheognneaaLays
import Derived.Test.YtjbocoheognneaaTurns
import Derived.Test.YtjbocoheognneaaNews
import Derived.Test.YtjbocoheognneaaGoods
import Derived.Test.YtjbocoheognneaaPlain
import Derived.Test.YtjbocoheognneaaNeeds
import Derived.Test.YtjbocoheognneaaPlace
import Derived.Test.YtjbocoheognneaaPlaces
import Derived.Test.YtjbocoheognneaaFetch
import Derived.Test.YtjbocoheognneaaFetches
import Derived.Test.YtjbocoheognneaaFetched
import Derived.Test.YtjbocoheognneaaRelease
import Derived.Test.YtjbocoheognneaaRefRel
import Derived.Test.YtjbocoheognneaaLies
import Derived.WalkKit
import Derived.ProofKit
import Derived.OpenShut
import Derived.Below
import Derived.WalkLawsBesides
import Derived.Deep.QuietTactic
import Derived.BigQuiet
import Derived.RangeFuncNested
import Derived.RangeFuncBox
import Derived.RangeFuncBound
import Derived.RangeFuncCalls
import Derived.RangeFuncLeaves
import Derived.Shelf.Abstract
import Derived.Shelf.RegionOpen
import Derived.OwnWalkIn
import Derived.TacticsInMore
import Derived.LoopNIn
import Derived.LoopIn
namespace Go.Proofs.Ytjbocoheognneaa
open Go.ChangeShapes Go.WideShapes Go.ChangeAt Go.RowKit
set_option linter.unusedVariables false

def tM : ByteArray := ⟨#[109]⟩
theorem tM_ne : ¬ tM.toList = [] := by simp [tM, ByteArray.toList_eq]

theorem place_new (n : Nat) (W : List Int) (h : (W.length + 31) / 32 ≤ n) : placeE (newPl n) tM W = 0 := by
  unfold placeE takeE
  rw [needZ_nat, if_neg (fun h => h.elim tM_ne (by omega)), if_neg]
  rw [show (newPl n).n = n from rfl, freeTo_new]
  show ¬ ((n : Int) - 0 < _)
  omega
theorem all_free {p : Nat → Pg} {n : Nat} (h : freeTo p n = n) : ∀ x, x < n → (p x).ow = 0 := by
  induction n with
  | zero => intro x hx; omega
  | succ n ih =>
    simp only [freeTo] at h
    have := freeTo_le p n
    by_cases c : (p n).ow = 0
    · rw [if_pos c] at h
      intro x hx
      by_cases e : x = n
      · rw [e]; exact c
      · exact ih (by omega) x (by omega)
    · rw [if_neg c] at h
      omega
theorem cnt_none {p : Nat → Pg} (t : ByteArray) {n : Nat} (h : ∀ x, x < n → (p x).ow = 0) : cntTo p t n = 0 := by
  induction n with
  | zero => rfl
  | succ n ih =>
    simp only [cntTo]
    rw [ih (fun x hx => h x (by omega)), if_neg (by rw [h n (by omega)]; simp)]

theorem reads_block {k : IntKind} {w w' : World} {x : Addr} {n : Nat} {zs : List Int} (h : Reads k w (some x) n zs) (e : w'.heap[x.block]? = w.heap[x.block]?) : Reads k w' (some x) n zs :=
  ⟨h.len, h.max, h.wf, h.some_, fun y hy i hi => by
    obtain rfl := Option.some.inj hy
    exact (World.cell?_of_block (w := w) (show w'.heap[(x.add i).block]? = w.heap[(x.add i).block]? by rw [add_block]; exact e)).trans (h.cell x rfl i hi)⟩

theorem RowB.below {B : Nat} {w w' : World} {a : Option Addr} {l c : Nat} {zs : List Int} (h : RowB B w a l c zs) (o : Below w.heap.size w w') : RowB B w' a l c zs := h.off (T := fun _ => false) (B' := 0) (Off.of_below o) rfl

def W40 : List Int := List.replicate 39 0 ++ [-7]
def z40 : Obj := .cells (madeCells #[.int .i8 0] 40) 67
theorem made40 (w : World) : (Instr.makeSlice 31 (.int .i64 40) (.int .i64 40)).run Try.prog w = .ok (.slice (some ⟨w.heap.size, 0, none⟩) 40 40) (w.alloc z40) :=
  run_make_row' 31 67 (.int .i8 0) 1 Try.underlying31 info67 rfl .i64 .i64 40 (by decide) (by decide) w
theorem z40_at (w : World) (j : Nat) (hj : j < 40) : (w.alloc z40).cell? ⟨w.heap.size, j, none⟩ = some (.int .i8 0) := by
  have e : (w.alloc z40).heap[w.heap.size]? = some z40 := heap_alloc_new w z40
  unfold World.cell?
  rw [e]
  simp [z40, madeCells, hj, Nat.mod_one]
theorem W40_at : ∀ i, i < 39 → W40.getD i 0 = 0 := by decide
theorem w40_reads (w : World) : Reads .i8 ((w.alloc z40).setCell ⟨w.heap.size, 39, none⟩ (.int .i8 (-7))) (some ⟨w.heap.size, 0, none⟩) 40 W40 := by
  refine Reads.of_row rfl (by decide) (fun z hz => ?_) fun i hi => ?_
  · simp only [W40, List.mem_append, List.mem_replicate, List.mem_singleton] at hz
    rcases hz with ⟨_, rfl⟩ | rfl <;> decide
  · have e : (⟨w.heap.size, 0, none⟩ : Addr).add i = ⟨w.heap.size, i, none⟩ := by unfold Addr.add; split <;> simp_all
    rw [e]
    by_cases c : i = 39
    · subst c
      exact World.cell?_setCell_same _ _ _ (z40_at w 39 (by decide))
    · rw [World.cell?_setCell_other _ _ _ _ (by simp <;> omega), z40_at w i hi, W40_at i (by omega)]
theorem w40_type (w : World) : Row 67 ((w.alloc z40).setCell ⟨w.heap.size, 39, none⟩ (.int .i8 (-7))) w.heap.size 40 :=
  Row.set ⟨_, heap_alloc_new w z40, size_madeCells _ _⟩ _ _
theorem W40_wf : ∀ z ∈ W40, (Lit.int .i8 z).wf = true := by
  intro z hz
  simp only [W40, List.mem_append, List.mem_replicate, List.mem_singleton] at hz
  rcases hz with ⟨_, rfl⟩ | rfl <;> decide

set_option maxRecDepth 20000 in
set_option maxHeartbeats 2000000 in
theorem works_call (w : World) : Calls Try.prog 23 #[] w fun e w' => e = .returned (.bool true) ∧ Below w.heap.size w w' := by
  have k6 := (show Calls Try.prog 6 #[.int .i64 3] w _ from new_call 3 (by decide) (by decide) w)
  have hmk := made40
  have k8 := need_call 33 (by decide) (by decide)
  rw [show needZ 33 = 2 by decide] at k8
  have hE := place_new 3 W40 (by decide)
  have hG0 := good_new 3 5 (by decide) (by decide)
  obtain ⟨hL, hn, ha, hoth, hmem, hfree⟩ := placed hG0 tM W40 hE
  have hGs := hG0.placeS (by decide) tM W40
  have hlen : (placeR (newPl 3) tM W40).length = 2 := hL.len
  have hk10 : ∀ W b g x, PoolAt w.heap.size W b g (newPl 3) → (∀ w', Off w.heap.size TP W w' → Reads .i8 w' (some x) 40 W40) → _ := fun W b g x q r => placed_call q hG0 (by decide) tM (some x) 40 40 W40 r
  simp only [hE] at hk10
  obtain ⟨f1, f2⟩ := hL.fetch (by decide) W40_wf
  rw [show (W40.length : Int) = 40 from rfl] at f1 f2
  obtain ⟨S, eS⟩ : ∃ S, placeS (newPl 3) tM W40 = S := ⟨_, rfl⟩
  obtain ⟨P, eP⟩ : ∃ P, placeR (newPl 3) tM W40 = P := ⟨_, rfl⟩
  rw [eS, eP] at hL hoth hfree f1 f2
  rw [eS] at hn ha hGs
  rw [eP] at hlen hmem
  simp only [eS, eP] at hk10
  have f3 : fetchE S P 65 = 20 := by unfold fetchE; rw [if_pos (.inr (by rw [hlen]; decide))]
  have hk13 : ∀ W b g a l c n, PoolAt w.heap.size W b g S → RowI w.heap.size W a l c P → -9223372036854775808 ≤ n → n ≤ 9223372036854775807 → _ := fun W b g a l c n q r n0 n1 => fetched_call q hGs a l c P r.reads (by rw [← r.len, hlen]; decide) r.lt n n0 n1
  have hk16 : ∀ W b g a l c, PoolAt w.heap.size W b g S → RowI w.heap.size W a l c P → _ := fun W b g a l c q r => release_call q hGs (by decide) a l c P (fun w' o => (r.off o rfl).reads) (by rw [← r.len, hlen]; decide)
  have hr := hL.own.rel (by decide)
  have e1 : relE S P = 0 := by unfold relE; rw [if_pos hr]
  have e2 : relS S P = P.foldl drS S := by unfold relS; rw [if_pos hr]
  simp only [e1, e2] at hk16
  have hfr := drops_free P S hL.own
  rw [hn] at hfr
  have hst := (steps_all dropPg P S hL.own.1 (hL.own.used (by decide))).1
  rw [← drS_step, hn] at hst
  have hfr3 : freeTo (P.foldl drS S).pg 3 = 3 := by
    rw [show (newPl 3).n = 3 from rfl] at hfr hfree
    rw [freeTo_new 3 3] at hfree
    omega
  have hk41 : ∀ W b g, PoolAt w.heap.size W b g (P.foldl drS S) → Calls Try.prog 41 #[.pointer (some ⟨b, 0, none⟩), .string tM] W fun e w' => e = .returned (.int .i64 0) ∧ w' = W := fun W b g q => by
    have := count_call q (by rw [hst]; decide) tM
    rw [hst, show (newPl 3).n = 3 from rfl, cnt_none tM (fun x hx => all_free hfr3 x hx)] at this
    exact this
  have hk15 : ∀ W a l c a' c', RowB w.heap.size W a l c W40 → Reads .i8 W a' 40 W40 → _ := fun W a l c a' c' q r => same_bytes a l c W40 a' 40 c' W q.reads r
  have KK := hidden_ hk10
  have K13 := hidden_ hk13
  have K16 := hidden_ hk16
  have K41 := hidden_ hk41
  have K15 := hidden_ hk15
  clear hk10 hk13 hk16 hk41 hk15 hE hG0 hL hn ha hoth hmem hfree hGs hr hfr hst hfr3 e1 e2
  have KF := hidden_ (And.intro f1 (And.intro f2 (And.intro f3 hlen)))
  clear f1 f2 f3 hlen eS eP
  unfold tM at KK K41
  go_enter Try.func23, Try.ntmps23
  go_wp2_with (first
    | (go_at_call 6; refine k6.mono ?_; rintro e W1 ⟨rfl, hp', hbl⟩; clear k6; have c39 := z40_at W1 39 (by decide); have fz : (W1.alloc z40).frozen? ⟨W1.heap.size, 39, none⟩ = false := Row.open_ (t := 67) (m := 40) ⟨_, heap_alloc_new W1 z40, size_madeCells _ _⟩ 39; have hrd := w40_reads W1; have hty := w40_type W1; have hA1 : Below W1.heap.size W1 ((W1.alloc z40).setCell ⟨W1.heap.size, 39, none⟩ (.int .i8 (-7))) := (below_new (Below.refl _ _) _).setCell (p := ⟨W1.heap.size, 39, none⟩) (Nat.le_refl _) _; obtain ⟨A, eA⟩ : ∃ A, (W1.alloc z40).setCell ⟨W1.heap.size, 39, none⟩ (.int .i8 (-7)) = A := ⟨_, rfl⟩; rw [eA] at hrd hty hA1; have HA := hidden_ (And.intro (hp' _ (Nat.le_refl _)) (And.intro hbl (And.intro hrd (And.intro hty hA1)))); have k10 := KK.out A _ _ _ ((hp' _ (Nat.le_refl _)).below hA1) (fun w' o => reads_block hrd (o.row hty rfl)); clear hp' hbl hrd hty hA1)
    | (go_at_call 10; refine k10.mono ?_; rintro e W4 ⟨a1, l1, p1, rfl, hr1, hp1, ho1⟩; clear k10; have hb4 : Below w.heap.size w W4 := (below_then HA.out.2.1 HA.out.2.2.2.2).trans (ho1.below (below_then HA.out.2.1 HA.out.2.2.2.2).size); have hr4 : RowI w.heap.size W4 a1 l1 p1 P := hr1.mono (below_then HA.out.2.1 HA.out.2.2.2.2).size; have rd4 := reads_block HA.out.2.2.1 (ho1.row HA.out.2.2.2.1 rfl); have k13 := K13.out W4 _ _ a1 l1 p1 40 hp1 hr4 (by decide) (by decide); rw [KF.out.1, KF.out.2.1] at k13; have hl1 := hr4.len; rw [KF.out.2.2.2] at hl1; obtain rfl := hl1.symm; have H4 := hidden_ (And.intro hb4 (And.intro hr4 rd4)); clear hr1 hp1 ho1 hb4 hr4 rd4 hl1)
    | (go_at_call 13; refine k13.mono ?_; rintro e W5 ⟨a2, l2, p2, rfl, hr2, hp2, ho2⟩; clear k13; have hr5 := H4.out.2.1.below ho2; have k13' := K13.out W5 _ _ a1 2 p1 65 hp2 hr5 (by decide) (by decide); rw [KF.out.2.2.1] at k13'; have H5 := hidden_ (And.intro (hr2.mono H4.out.1.size) (And.intro hr5 (And.intro (below_then H4.out.1 ho2) (H4.out.2.2.below ho2)))); clear hr2 hp2 ho2 hr5)
    | (go_at_call 13; refine k13'.mono ?_; rintro e W6 ⟨a3, l3, p3, rfl, hr3, hp3, ho3⟩; clear k13'; have k15 := K15.out W6 _ _ _ _ 40 (H5.out.1.below ho3) (H5.out.2.2.2.below ho3); have H6 := hidden_ (And.intro hp3 (And.intro (H5.out.2.1.below ho3) (below_then H5.out.2.2.1 ho3))); clear hr3 hp3 ho3)
    | (go_at_call 8; refine (k8 _).mono ?_; rintro e w' ⟨rfl, h1⟩; obtain rfl := h1.symm)
    | (go_at_call 15; refine k15.mono ?_; rintro e W7 ⟨rfl, m7, h7⟩; clear k15; have k16 := K16.out W7 _ _ a1 2 p1 (by rw [h7]; exact H6.out.1.drewN m7) (by rw [h7]; exact (H6.out.2.1.below (below_drew (Below.refl _ _) ⟨m7, rfl⟩))); have H7 := hidden_ (below_drew H6.out.2.2 ⟨m7, h7⟩); clear h7)
    | (go_at_call 16; refine k16.mono ?_; rintro e W8 ⟨rfl, hp8, ho8⟩; clear k16; have k41 := K41.out W8 _ _ hp8; have H8 := hidden_ (H7.out.trans (ho8.below H7.out.size)); clear hp8 ho8)
    | (go_at_call 41; refine k41.mono ?_; rintro e w' ⟨rfl, h1⟩; obtain rfl := h1.symm))
  go_ret
  exact ⟨rfl, H8.out⟩

end Go.Proofs.Ytjbocoheognneaa
