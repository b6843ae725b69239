/- The program reads weights out of pages: Fetch where the pages have cells enough. -/
import Derived.Test.YtfggkkhehaafcaaRows
import Derived.Test.YtfggkkhehaafcaaPages
import Derived.Test.YtfggkkhehaafcaaView
import Derived.Test.YtfggkkhehaafcaaOwn
import Derived.Test.YtfggkkhehaafcaaReadsP
import Derived.Test.YtfggkkhehaafcaaReadsQ
import Derived.Test.YtfggkkhehaafcaaLeast
import Derived.Test.YtfggkkhehaafcaaLays
import Derived.Test.YtfggkkhehaafcaaTurns
import Derived.Test.YtfggkkhehaafcaaGoods
import Derived.Test.YtfggkkhehaafcaaPlain
import Derived.Test.YtfggkkhehaafcaaNeeds
import Derived.Test.YtfggkkhehaafcaaInvIn
import Derived.Test.YtfggkkhehaafcaaPlace
import Derived.Test.YtfggkkhehaafcaaFetch
import Derived.WalkKit
import Derived.ProofKit
import Derived.OpenShut
import Derived.Below
import Derived.WalkLawsBesides
import Derived.Deep.QuietTactic
import Derived.BigQuiet
import Derived.RangeFuncNested
import Derived.RangeFuncBox
import Derived.RangeFuncBound
import Derived.RangeFuncCalls
import Derived.RangeFuncLeaves
import Derived.Shelf.Abstract
import Derived.Shelf.RegionOpen
import Derived.OwnWalkIn
import Derived.TacticsInMore
import Derived.LoopNIn
import Derived.LoopIn
import Derived.Maps.AppendAt
namespace Go.Proofs.Ytfggkkhehaafcaa
open Go.ChangeShapes Go.WideShapes Go.ChangeAt Go.RowKit
set_option linter.unusedVariables false

theorem grown_keeps {t e : TypeId} {W w1 : World} {g m n k : Nat} {v : Value} {xs : List Value} {tmp : Obj} (h : Row t W g m) (hrow : W.ownsRow n e 1 v k xs) (hte : t ≠ e) (hg : (W.alloc tmp).grownBy w1 v.ownBlock) : w1.heap[g]? = W.heap[g]? := by
  have e1 : (W.alloc tmp).heap[g]? = W.heap[g]? := Below.heap_alloc W tmp g h.lt
  refine (hg.block g (by rw [World.size_alloc]; have := h.lt; omega) (fun eq => ?_)).trans e1
  rcases hrow.2 with ⟨rfl, _⟩ | ⟨g', cap, cur, rfl, _, hgb, _⟩
  · cases eq
  · have : g = g' := by simpa [Value.ownBlock] using eq
    subst this
    exact hte (by obtain ⟨cs, hc, _⟩ := h; rw [hgb] at hc; injection hc with hc; injection hc with _ h2 _; exact h2.symm)

theorem FtI.next {B : Nat} {w : World} {b g : Nat} {s : Pl} {bp : Nat} {a1 : Option Addr} {l1 p1 M : Nat} {pre : List (Int × Int)} {W w1 : World} {x : Int × Int} {v v' : Value} {tmp : Obj} (h : FtI B w b g s bp a1 l1 p1 pre W) (hbp : w.heap.size + 3 < bp) (ha : ∀ y, a1 = some y → y.block < w.heap.size) (hx : stepE s x = 0)
    (h8 : Boxed W (w.heap.size + 3) 37 v) (hrow : W.ownsRow w.heap.size 59 1 v pre.length ((fetV s pre).map (Value.int .i8)))
    (hown' : w1.ownsRow w.heap.size 59 1 v' (pre.length + 1) ((fetV s pre).map (Value.int .i8) ++ [.int .i8 (getV s x.1 x.2)])) (hg : (W.alloc tmp).grownBy w1 v.ownBlock) :
    KeepsFrom M W (w1.setCell ⟨w.heap.size + 3, 0, none⟩ v') ∧ KpP bp a1 W (w1.setCell ⟨w.heap.size + 3, 0, none⟩ v') ∧ FtI B w b g s bp a1 l1 p1 (pre ++ [x]) (w1.setCell ⟨w.heap.size + 3, 0, none⟩ v') := by
  obtain ⟨hv1, hv2, hr2, hk2, hb2⟩ := h8.appended (by decide) hrow h.bel.size (Nat.le_add_right _ _) hown' hg
  have kb : ∀ {k : Nat} {t : TypeId} {u : Value}, Boxed W k t u → t ≠ 59 → k ≠ w.heap.size + 3 → Boxed (w1.setCell ⟨w.heap.size + 3, 0, none⟩ v') k t u := fun q ht hk => boxed_set_other ((grown_keeps (m := 1) ⟨_, q, rfl⟩ hrow ht hg).trans q) hk
  have p1 := (h.pool.of_blocks (grown_keeps h.pool.top hrow (by decide) hg) (grown_keeps h.pool.row hrow (by decide) hg)).set_other (u := v') hv1 (by decide) (by decide)
  refine ⟨hk2.from _, ⟨?_, fun y hy => hb2.block y.block (ha y hy)⟩, ⟨by rw [fetE_snoc s pre x h.ok, hx], kb h.b3 (by decide) (by omega), kb h.r6 (by decide) (by omega), kb h.r7 (by decide) (by omega), ⟨v', hv2, ?_⟩, kb h.bx (by decide) (by omega), p1, h.bel.trans hb2⟩⟩
  · exact (Below.heap_setCell w1 ⟨w.heap.size + 3, 0, none⟩ v' bp (by show bp ≠ w.heap.size + 3; omega)).trans (grown_keeps (m := 1) ⟨_, h.bx, rfl⟩ hrow (by decide) hg)
  · rw [fetV_snoc, List.length_append, List.length_cons, List.length_nil, List.map_append, List.map_cons, List.map_nil]
    exact hr2

theorem spots_prefix (P : List Int) (k N : Nat) (h : k ≤ N) : ∃ r, spots P N = spots P k ++ r := by
  obtain ⟨d, rfl⟩ := Nat.exists_eq_add_of_le h
  induction d with
  | zero => exact ⟨[], by simp⟩
  | succ d ih =>
    obtain ⟨r, e⟩ := ih (by omega)
    exact ⟨r ++ [spot P (k + d)], by rw [← Nat.add_assoc, spots_succ, e, List.append_assoc]⟩
theorem fetE_prefix {s : Pl} (P : List Int) (k N : Nat) (h : k ≤ N) (hne : fetE s (spots P k) ≠ 0) : fetE s (spots P N) = fetE s (spots P k) := by
  obtain ⟨r, e⟩ := spots_prefix P k N h
  rw [e, fetE_append, if_pos hne]

section
attribute [local go_sem] Oper.semAt_some

set_option maxRecDepth 100000 in
set_option maxHeartbeats 4000000 in
theorem fetch_yes {B m : Nat} {w : World} {b g : Nat} {s : Pl} (h : PoolAt B w b g s) (hG : Good m s) (a : Option Addr) (L c : Nat) (P : List Int) (hP : Reads .i64 w a L P) (hL : L ≤ 4096) (ha : ∀ y, a = some y → y.block < w.heap.size) (N : Nat) (hN : (N + 31) / 32 ≤ L) :
    Calls Try.prog 43 #[.pointer (some ⟨b, 0, none⟩), .slice a L c, .int .i64 (N : Int)] w fun e w' =>
      ∃ a' l' c', e = .returned (.tuple #[.slice a' l' c', .int .i64 (fetE s (spots P N))]) ∧ RowB w.heap.size w' a' l' c' (if fetE s (spots P N) = 0 then fetV s (spots P N) else []) ∧ PoolAt B w' b g s ∧ Below w.heap.size w w' := by
  have hlen := hP.len
  have hmax : N ≤ 131072 := by omega
  have k8 := need_call (N : Int) (by omega) (by omega)
  rw [needZ_nat] at k8
  have hN' : ¬ ((L : Int) < (((N + 31) / 32 : Nat) : Int)) := by omega
  obtain ⟨K, eK⟩ : ∃ K : Int, (((N + 31) / 32 : Nat) : Int) = K := ⟨_, rfl⟩
  rw [eK] at k8 hN'
  have n1 := hG.n1
  obtain ⟨i0, hi, hz0, hz1, hz2⟩ := info_parts info59
  obtain ⟨X0, eX0⟩ : ∃ X, (if fetE s (spots P N) = 0 then fetV s (spots P N) else []) = X := ⟨_, rfl⟩
  obtain ⟨E0, eE0⟩ : ∃ E, fetE s (spots P N) = E := ⟨_, rfl⟩
  have HX0 := hidden_ (And.intro eX0 eE0)
  rw [eX0, eE0]
  clear eX0 eE0
  have b0 := Boxed.new w 24 (.pointer (some ⟨b, 0, none⟩))
  have HH := hidden_ (And.intro h hP)
  clear h hP hG eK
  refine (callsIn_wide (n := 5)).1 ?_
  refine callsIn_of_wp_marks Try.func43 rfl trivial ?_ rfl
  simp only [Try.ntmps43, List.size_toArray, List.length_cons, List.length_nil, Nat.reduceAdd, Nat.reduceSub, Array.replicate_succ, Array.replicate_zero, List.push_toArray, List.append_toArray, List.nil_append, List.cons_append]
  refine wpIn_wide.2 ?_
  go_wp2_with (first
    | (go_at_call 71; refine (k8 _).mono ?_; rintro e w' ⟨rfl, h1⟩; obtain rfl := h1.symm)
    | (go_at_call 72; refine (places_call _ _ _ _ _).mono ?_; rintro e W2 ⟨rfl, h2⟩; obtain rfl := h2.symm))
  have hs6 : ((((((w.alloc (.cells #[.pointer (some ⟨b, 0, none⟩)] 24)).alloc (.cells #[.slice none 0 0] 37)).alloc (.cells #[.int .i64 0] 25)).alloc (.cells #[.slice none 0 0] 37)).alloc (.cells #[.slice a L c] 58)).alloc (.cells #[.int .i64 (N : Int)] 3)).heap.size = w.heap.size + 6 := by simp
  have f1 : Below w.heap.size w ((((((w.alloc (.cells #[.pointer (some ⟨b, 0, none⟩)] 24)).alloc (.cells #[.slice none 0 0] 37)).alloc (.cells #[.int .i64 0] 25)).alloc (.cells #[.slice none 0 0] 37)).alloc (.cells #[.slice a L c] 58)).alloc (.cells #[.int .i64 (N : Int)] 3)) :=
    below_new (below_new (below_new (below_new (below_new (below_new (Below.refl _ _) _) _) _) _) _) _
  have x3 := ((((b0.alloc (.cells #[.slice none 0 0] 37)).alloc (.cells #[.int .i64 0] 25)).alloc (.cells #[.slice none 0 0] 37)).alloc (.cells #[.slice a L c] 58)).alloc (.cells #[.int .i64 (N : Int)] 3)
  have x6 := ((((Boxed.new (w.alloc (.cells #[.pointer (some ⟨b, 0, none⟩)] 24)) 37 (.slice none 0 0)).alloc (.cells #[.int .i64 0] 25)).alloc (.cells #[.slice none 0 0] 37)).alloc (.cells #[.slice a L c] 58)).alloc (.cells #[.int .i64 (N : Int)] 3)
  have x7 := (((Boxed.new ((w.alloc (.cells #[.pointer (some ⟨b, 0, none⟩)] 24)).alloc (.cells #[.slice none 0 0] 37)) 25 (.int .i64 0)).alloc (.cells #[.slice none 0 0] 37)).alloc (.cells #[.slice a L c] 58)).alloc (.cells #[.int .i64 (N : Int)] 3)
  have x8 := ((Boxed.new (((w.alloc (.cells #[.pointer (some ⟨b, 0, none⟩)] 24)).alloc (.cells #[.slice none 0 0] 37)).alloc (.cells #[.int .i64 0] 25)) 37 (.slice none 0 0)).alloc (.cells #[.slice a L c] 58)).alloc (.cells #[.int .i64 (N : Int)] 3)
  have xp := (Boxed.new ((((w.alloc (.cells #[.pointer (some ⟨b, 0, none⟩)] 24)).alloc (.cells #[.slice none 0 0] 37)).alloc (.cells #[.int .i64 0] 25)).alloc (.cells #[.slice none 0 0] 37)) 58 (.slice a L c)).alloc (.cells #[.int .i64 (N : Int)] 3)
  have xn := Boxed.new (((((w.alloc (.cells #[.pointer (some ⟨b, 0, none⟩)] 24)).alloc (.cells #[.slice none 0 0] 37)).alloc (.cells #[.int .i64 0] 25)).alloc (.cells #[.slice none 0 0] 37)).alloc (.cells #[.slice a L c] 58)) 3 (.int .i64 (N : Int))
  simp only [World.size_alloc] at x6 x7 x8 xp xn
  obtain ⟨W0, eW0⟩ : ∃ W0, ((((((w.alloc (.cells #[.pointer (some ⟨b, 0, none⟩)] 24)).alloc (.cells #[.slice none 0 0] 37)).alloc (.cells #[.int .i64 0] 25)).alloc (.cells #[.slice none 0 0] 37)).alloc (.cells #[.slice a L c] 58)).alloc (.cells #[.int .i64 (N : Int)] 3)) = W0 := ⟨_, rfl⟩
  rw [eW0] at f1 x3 x6 x7 x8 xp xn hs6 ⊢
  have hP0 : FtI B w b g s (w.heap.size + 1 + 1 + 1 + 1) a L c [] W0 := ⟨rfl, x3, x6, x7, ⟨_, x8, World.ownsRow_nil _ _ _ _⟩, xp, HH.out.1.below f1, f1⟩
  have hr0 := HH.out.2.below f1
  clear b0 x3 x6 x7 x8 k8 eW0 HH
  refine (wpIn_wide (n := 5)).1 ?_
  refine wpIn_rangeFunc_ownG rfl (by omega) (gf := 81) (lb := #[.pointer (some ⟨w.heap.size + 1 + 1 + 1 + 1 + 1, 0, none⟩), .pointer (some ⟨w.heap.size + 1 + 1 + 1 + 1, 0, none⟩)]) rfl trivial (enters_of Try.func81 (by kernel_rfl) rfl)
    (places_stops Fence.wide _ trivial rfl (by omega) (w.heap.size + 1 + 1 + 1 + 1 + 1) (w.heap.size + 1 + 1 + 1 + 1) a L c N P hN (by omega) W0 xn.cell xp.cell hr0) KpP.trans (KpP.book (by omega) (fun x hx => by have := ha x hx; omega)) (Below.refl _ _) (fun _ => rfl)
    (FtI B w b g s (w.heap.size + 1 + 1 + 1 + 1) a L c) (fun c pre W => c = .ret ∧ FtX B w b g s pre W) (FtI.own (by omega)) (FtX.own (by omega)) hP0
    (fun x => { tmps := #[.pointer (some ⟨b, 0, none⟩), .slice a L c, .int .i64 (N : Int), .pointer (some ⟨w.heap.size, 0, none⟩), undef, undef, .pointer (some ⟨w.heap.size + 1, 0, none⟩), .pointer (some ⟨w.heap.size + 1 + 1, 0, none⟩),
          .pointer (some ⟨w.heap.size + 1 + 1 + 1, 0, none⟩), .int .i64 x.1, .int .i64 x.2, undef, undef, .int .i64 (N : Int), .bool (decide ((N : Int) < 0)), .bool (decide ((N : Int) < 0)),
          .int .i64 (N : Int), .int .i64 K, .slice a L c, .int .i64 (L : Int), .bool (decide ((L : Int) < K)), .bool (decide ((N : Int) < 0) || decide ((L : Int) < K)), .slice a L c, .int .i64 (N : Int),
          .func (.func 81) #[] #[.pointer (some ⟨w.heap.size + 1 + 1 + 1 + 1 + 1, 0, none⟩), .pointer (some ⟨w.heap.size + 1 + 1 + 1 + 1, 0, none⟩)],
          .int .i64 x.1, .int .i64 x.2, undef, undef, undef, undef, undef, undef, undef, undef, undef, undef, undef, undef, undef, undef, undef, undef, undef, undef, undef, undef, undef, undef], defers := [] }) ?assign ?body ?done ?stop
  case assign =>
    intro l x W K hK
    gi_wp2
    exact hK
  case body =>
    rintro l pre x W9 hI hlt
    have kG := get_call hI.pool n1 x.1 x.2
    have d3 := hI.b3.cell
    have d6 := hI.r6.cell
    have d6' := hI.r6.frozen
    have d7 : (W9.setCell ⟨w.heap.size + 1, 0, none⟩ (.slice none 0 0)).cell? ⟨w.heap.size + 1 + 1, 0, none⟩ = some (.int .i64 0) := (boxed_set_other (k := w.heap.size + 2) hI.r7 (by omega)).cell
    have d7' : (W9.setCell ⟨w.heap.size + 1, 0, none⟩ (.slice none 0 0)).frozen? ⟨w.heap.size + 1 + 1, 0, none⟩ = false := (boxed_set_other (k := w.heap.size + 2) hI.r7 (by omega)).frozen
    obtain ⟨v, h8, hrow⟩ := hI.b8
    have d8 : W9.cell? ⟨w.heap.size + 1 + 1 + 1, 0, none⟩ = some v := h8.cell
    have HI := hidden_ hI
    have hws := hI.bel.size
    by_cases g0 : getE s x.1 x.2 = 0
    · by_cases g1 : getV s x.1 x.2 < -128
      · have hx : stepE s x = 20 := by simp [stepE, g0, g1]
        have HL := hidden_ (HI.out.leave (M := W0.heap.size) 20 (by decide) hx)
        rw [g0] at kG
        obtain ⟨V, eV⟩ : ∃ V, getV s x.1 x.2 = V := ⟨_, rfl⟩
        rw [eV] at kG g1
        clear eV hx hI hrow HI hP0 hr0 xp xn
        gi_wp2_with (first | (refine ⟨trivial, ?_⟩; gi_at_call 73; refine (CallsIn.inRound l (callsIn_wide.2 kG)).mono ?_; rintro e w' ⟨rfl, h1⟩; obtain rfl := h1.symm))
        exact ⟨HL.out.1, rfl, HL.out.2⟩
      · by_cases g2 : 127 < getV s x.1 x.2
        · have hx : stepE s x = 20 := by simp [stepE, g0, g2]
          have HL := hidden_ (HI.out.leave (M := W0.heap.size) 20 (by decide) hx)
          rw [g0] at kG
          obtain ⟨V, eV⟩ : ∃ V, getV s x.1 x.2 = V := ⟨_, rfl⟩
          rw [eV] at kG g1 g2
          clear eV hx hI hrow HI hP0 hr0 xp xn
          gi_wp2_with (first | (refine ⟨trivial, ?_⟩; gi_at_call 73; refine (CallsIn.inRound l (callsIn_wide.2 kG)).mono ?_; rintro e w' ⟨rfl, h1⟩; obtain rfl := h1.symm))
          exact ⟨HL.out.1, rfl, HL.out.2⟩
        · have hx : stepE s x = 0 := by simp [stepE, g0, g1, g2]
          rw [g0] at kG
          have HN := hidden_ (fun (w1 : World) (v' : Value) (tmp : Obj) q1 q2 => HI.out.next (M := W0.heap.size) (w1 := w1) (v' := v') (tmp := tmp) (by omega) ha hx h8 hrow q1 q2)
          have H9 := hidden_ (fun (w1 : World) (v' : Value) (tmp : Obj) q1 q2 => (h8.appended (w1 := w1) (v' := v') (tmp := tmp) (ys := (fetV s pre).map (Value.int .i8) ++ [.int .i8 (getV s x.1 x.2)]) (m := pre.length + 1) (by decide) hrow hws (Nat.le_add_right _ _) q1 q2).1)
          obtain ⟨V, eV⟩ : ∃ V, getV s x.1 x.2 = V := ⟨_, rfl⟩
          rw [eV] at kG g1 g2 HN H9
          have hv : IntKind.i8.wrap V = V := wrap_i8 (by omega) (by omega)
          have hNl : pre.length < 131072 := by omega
          clear eV hx hI HI hP0 hr0 xp xn
          obtain ⟨fs, efs⟩ : ∃ fs, (fetV s pre).map (Value.int .i8) = fs := ⟨_, rfl⟩
          rw [efs] at HN H9 hrow
          clear efs
          gi_wp2_with (first
            | (refine ⟨trivial, ?_⟩; gi_at_call 73; refine (CallsIn.inRound l (callsIn_wide.2 kG)).mono ?_; rintro e w' ⟨rfl, h1⟩; obtain rfl := h1.symm)
            | (gi_at_builtin; refine wpListIn_append_own _ rfl _ _ 37 rfl w.heap.size 59 i0 (.int .i8 0) 1 1 Try.underlying37 hi hz0 hz1 hz2 rfl (by decide) _ _ _ rfl (hrow.alloc _) ⟨W9.heap.size, 0, none⟩ 1 1 [.int .i8 V] rfl rfl (cell_one_new _ _ _) (by simp [Value.oneCell']) (by unfold maxLen; omega) (by omega) (by simp; omega) ?_; intro v' w1 hown' hgrow _; have hn := HN.out w1 v' _ hown' hgrow; have hq := H9.out w1 v' _ hown' hgrow; obtain ⟨g', cap', rfl⟩ := ownsRow_succ hown'; have hc1 : w1.cell? ⟨w.heap.size + 1 + 1 + 1, 0, none⟩ = some v := hq.cell; have hf1 : w1.frozen? ⟨w.heap.size + 1 + 1 + 1, 0, none⟩ = false := hq.frozen; have HNN := hidden_ hn; clear hn hq hown' hgrow))
          exact HNN.out
    · have hx : stepE s x = getE s x.1 x.2 := by simp [stepE, g0]
      have HL := hidden_ (HI.out.leave (M := W0.heap.size) _ g0 hx)
      obtain ⟨V, eV⟩ : ∃ V, getV s x.1 x.2 = V := ⟨_, rfl⟩
      obtain ⟨E, eE⟩ : ∃ E, getE s x.1 x.2 = E := ⟨_, rfl⟩
      rw [eV, eE] at kG
      rw [eE] at g0 HL
      have g0' : (E == 0) = false := by simp [g0]
      have g0'' : (E != 0) = true := by simp [g0]
      clear eV eE hx hI hrow HI hP0 hr0 xp xn
      gi_wp2_with (first | (refine ⟨trivial, ?_⟩; gi_at_call 73; refine (CallsIn.inRound l (callsIn_wide.2 kG)).mono ?_; rintro e w' ⟨rfl, h1⟩; obtain rfl := h1.symm))
      exact ⟨HL.out.1, rfl, HL.out.2⟩
  case done =>
    rintro D ys W9 hD rfl hI hK
    obtain ⟨v, h8, hrow⟩ := hI.b8
    obtain ⟨a9, c9, rfl⟩ := own_form hrow
    have d8 : W9.cell? ⟨w.heap.size + 1 + 1 + 1, 0, none⟩ = some (.slice a9 (spots P N).length c9) := h8.cell
    have d6 := hI.r6.cell
    have d6' := hI.r6.frozen
    have q7 : Boxed (W9.setCell ⟨w.heap.size + 1, 0, none⟩ (.slice a9 (spots P N).length c9)) (w.heap.size + 1 + 1) 25 (.int .i64 0) := boxed_set_other (k := w.heap.size + 2) hI.r7 (by omega)
    have q6 := hI.r6.set (.slice a9 (spots P N).length c9)
    have d7 := q7.cell
    have d7' := q7.frozen
    have p1 := (hI.pool.set_other (u := .slice a9 (spots P N).length c9) hI.r6 (by decide) (by decide)).set_other (u := .int .i64 0) q7 (by decide) (by decide)
    have q6' := boxed_set_other (u := .int .i64 0) (k' := w.heap.size + 1 + 1) q6 (by omega)
    have q7' := q7.set (.int .i64 0)
    have o1 := (hrow.kept (grownBy_setCell' W9 (w.heap.size + 1) (.slice a9 (spots P N).length c9)) (.inr (hI.r6.not_row (by decide) hrow).symm)).kept (grownBy_setCell' _ (w.heap.size + 1 + 1) (.int .i64 0)) (.inr (q7.not_row (by decide) (hrow.kept (grownBy_setCell' W9 (w.heap.size + 1) (.slice a9 (spots P N).length c9)) (.inr (hI.r6.not_row (by decide) hrow).symm))).symm)
    have bl1 := (hI.bel.setCell (p := ⟨w.heap.size + 1, 0, none⟩) (by simp) (.slice a9 (spots P N).length c9)).setCell (p := ⟨w.heap.size + 1 + 1, 0, none⟩) (by simp; omega) (.int .i64 0)
    have hok := hI.ok
    have hK' : ((W9.setCell ⟨w.heap.size + 1, 0, none⟩ (.slice a9 (spots P N).length c9)).setCell ⟨w.heap.size + 1 + 1, 0, none⟩ (.int .i64 0)).heap[D]? = some (.deferred (some [])) := ((KeepsOthers.setCell _ _ _).trans (KeepsOthers.setCell _ _ _)).same D _ hK rfl
    have HE := hidden_ (And.intro p1 (And.intro o1 (And.intro bl1 (And.intro q6' q7'))))
    clear hI h8 hrow p1 o1 bl1 q6 q7 hP0 hr0 xp xn
    go_wp2
    refine ⟨by simp, .inl ⟨_, _, rfl, run_takeDeferred hK', ?_⟩⟩
    obtain ⟨p1, o1, bl1, r6, r7⟩ := HE.out
    obtain ⟨W8, eW8⟩ : ∃ W8, (W9.setCell ⟨w.heap.size + 1, 0, none⟩ (.slice a9 (spots P N).length c9)).setCell ⟨w.heap.size + 1 + 1, 0, none⟩ (.int .i64 0) = W8 := ⟨_, rfl⟩
    rw [eW8] at p1 o1 bl1 r6 r7 hK' ⊢
    have hg := grownBy_putObj' W8 D (.deferred none)
    have hg' : ∀ r, some D = some r → ∃ o : Obj, W8.heap[r]? = some o ∧ o.isCells = false := fun r e => by cases e; exact ⟨_, hK', rfl⟩
    have k6 := (boxed_kept r6 hg hg').cell
    have k7 := (boxed_kept r7 hg hg').cell
    refine ⟨.tuple #[.slice a9 (spots P N).length c9, .int .i64 0], ?_, a9, (spots P N).length, c9, by rw [← HX0.out.2, hok], ?_, p1.kept hg hg', below_kept bl1 (Nat.le_refl _) hg (fun r e => by cases e; omega)⟩
    · simp [results, Try.f43, go_sem, k6, k7]
    · rw [← HX0.out.1, if_pos hok]
      exact ⟨fetV_len _ _, own_kept o1 hg hg', fun z hz => by
        obtain ⟨y, hy, rfl⟩ := List.mem_map.1 hz
        have := stepE_zero (fetE_zero hok y hy)
        exact wf_i8 this.2.1 this.2.2⟩
  case stop =>
    rintro D c9 pre W9 hD ⟨k, hk, rfl⟩ ⟨rfl, hX⟩ hK
    gi_wp2
    refine ⟨by simp, .inl ⟨_, _, rfl, run_takeDeferred hK, ?_⟩⟩
    have hg := grownBy_putObj' W9 D (.deferred none)
    have hg' : ∀ r, some D = some r → ∃ o : Obj, W9.heap[r]? = some o ∧ o.isCells = false := fun r e => by cases e; exact ⟨_, hK, rfl⟩
    have k6 := (boxed_kept hX.r6 hg hg').cell
    have k7 : (W9.putObj D (.deferred none)).cell? ⟨w.heap.size + 1 + 1, 0, none⟩ = some (.int .i64 (fetE s (spots P k))) := (boxed_kept hX.r7 hg hg').cell
    have he : fetE s (spots P N) = fetE s (spots P k) := fetE_prefix P k N hk hX.ne
    refine ⟨.tuple #[.slice none 0 0, .int .i64 (fetE s (spots P k))], ?_, none, 0, 0, by rw [← HX0.out.2, he], by rw [← HX0.out.1, he, if_neg hX.ne]; exact RowB.nil _ _, hX.pool.kept hg hg', below_kept hX.bel (Nat.le_refl _) hg (fun r e => by cases e; omega)⟩
    simp [results, Try.f43, go_sem, k6, k7]
end

end Go.Proofs.Ytfggkkhehaafcaa
