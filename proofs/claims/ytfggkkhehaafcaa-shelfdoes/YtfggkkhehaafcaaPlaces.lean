/- Place of the program, whatever comes; Need and Place of the document: their contracts. -/
import Derived.Test.YtfggkkhehaafcaaRows
import Derived.Test.YtfggkkhehaafcaaPages
import Derived.Test.YtfggkkhehaafcaaView
import Derived.Test.YtfggkkhehaafcaaOwn
import Derived.Test.YtfggkkhehaafcaaReadsP
import Derived.Test.YtfggkkhehaafcaaReadsQ
import Derived.Test.YtfggkkhehaafcaaLeast
import Derived.Test.YtfggkkhehaafcaaLays
import Derived.Test.YtfggkkhehaafcaaTurns
import Derived.Test.YtfggkkhehaafcaaGoods
import Derived.Test.YtfggkkhehaafcaaRefPg
import Derived.Test.YtfggkkhehaafcaaRefRd
import Derived.Test.YtfggkkhehaafcaaRefTk
import Derived.Test.YtfggkkhehaafcaaRefLays
import Derived.Test.YtfggkkhehaafcaaRefTurns
import Derived.Test.YtfggkkhehaafcaaPlain
import Derived.Test.YtfggkkhehaafcaaNeeds
import Derived.Test.YtfggkkhehaafcaaPlace
import Derived.WalkKit
import Derived.ProofKit
import Derived.OpenShut
import Derived.Below
import Derived.WalkLawsBesides
import Derived.Deep.QuietTactic
import Derived.BigQuiet
import Derived.RangeFuncNested
import Derived.RangeFuncBox
import Derived.RangeFuncBound
import Derived.RangeFuncCalls
import Derived.RangeFuncLeaves
import Derived.Shelf.Abstract
import Derived.Shelf.RegionOpen
import Derived.OwnWalkIn
import Derived.TacticsInMore
import Derived.LoopNIn
import Derived.LoopIn
import Derived.Deep.RegionHeld3
namespace Go.Proofs.Ytfggkkhehaafcaa
open Go.ChangeShapes Go.WideShapes Go.ChangeAt Go.RowKit
set_option linter.unusedVariables false

theorem place_no {B m : Nat} {w : World} {b g : Nat} {s : Pl} (h : PoolAt B w b g s) (hG : Good m s) (t : ByteArray) (a : Option Addr) (L c : Nat) (W : List Int) (hW : Reads .i8 w a L W) (h0 : placeE s t W ≠ 0) :
    Calls Try.prog 76 #[.pointer (some ⟨b, 0, none⟩), .string t, .slice a L c] w fun e w' =>
      ∃ a' l' c', e = .returned (.tuple #[.slice a' l' c', .int .i64 (placeE s t W)]) ∧ RowI w.heap.size w' a' l' c' [] ∧ PoolAt B w' b g s ∧ Off B TP w w' := by
  have hlen : W.length = L := hW.len
  have hmax := hW.max
  have k8 := need_call (L : Int) (by omega) (by omega)
  obtain ⟨K, eK⟩ : ∃ K, needZ L = K := ⟨_, rfl⟩
  have hb1 := below_new (below_new (Below.refl _ w) (.cells #[.pointer (some ⟨b, 0, none⟩)] 24)) (.cells #[.slice a L c] 37)
  have bx3 : Boxed ((w.alloc (.cells #[.pointer (some ⟨b, 0, none⟩)] 24)).alloc (.cells #[.slice a L c] 37)) w.heap.size 24 (.pointer (some ⟨b, 0, none⟩)) := (Boxed.new _ _ _).alloc _
  have bx5 : Boxed ((w.alloc (.cells #[.pointer (some ⟨b, 0, none⟩)] 24)).alloc (.cells #[.slice a L c] 37)) (w.heap.size + 1) 37 (.slice a L c) := by
    have := Boxed.new (w.alloc (.cells #[.pointer (some ⟨b, 0, none⟩)] 24)) 37 (.slice a L c)
    rwa [World.size_alloc] at this
  obtain ⟨A, eA⟩ : ∃ A, (w.alloc (.cells #[.pointer (some ⟨b, 0, none⟩)] 24)).alloc (.cells #[.slice a L c] 37) = A := ⟨_, rfl⟩
  have k25 := take_call ((h.below (by rw [← eA]; exact hb1) : PoolAt B A b g s).drewN 1) hG t K
  rw [eK] at k8
  have hE : placeE s t W = takeE s t K := by unfold placeE; rw [hlen, eK]
  have hS : takeS s t K = s := by unfold takeS; rw [if_neg (by rw [← hE]; exact h0)]
  rw [hS] at k25
  rw [hE] at h0 ⊢
  have c3 : A.drew.cell? ⟨w.heap.size, 0, none⟩ = some (.pointer (some ⟨b, 0, none⟩)) := by have := bx3.cell; rw [eA] at this; exact this
  have c5 : A.drew.cell? ⟨w.heap.size + 1, 0, none⟩ = some (.slice a L c) := by have := bx5.cell; rw [eA] at this; exact this
  have hA : Hid (Below w.heap.size w A ∧ Boxed A w.heap.size 24 (.pointer (some ⟨b, 0, none⟩)) ∧ Boxed A (w.heap.size + 1) 37 (.slice a L c)) := by rw [← eA]; exact ⟨hb1, bx3, bx5⟩
  obtain ⟨E, eE⟩ : ∃ E, takeE s t K = E := ⟨_, rfl⟩
  rw [eE] at k25 h0 ⊢
  have h0' : (E == 0) = false := by simp [h0]
  have h0'' : (E != 0) = true := by simp [h0]
  clear hb1 bx3 bx5 eK hE h hG hW hS eE
  go_enter Try.func76, Try.ntmps76
  go_wp2
  go_region_held3 (fun W => W.cell? ⟨w.heap.size, 0, none⟩ = some (.pointer (some ⟨b, 0, none⟩)) ∧ W.cell? ⟨w.heap.size + 1, 0, none⟩ = some (.slice a L c)) (first | assumption | (exact ⟨c3, c5⟩) | exact d35) (first
    | (go_at_call 71; refine (k8 _).mono ?_; rintro e w' ⟨rfl, h1⟩; obtain rfl := h1.symm)
    | (go_at_call 34; refine k25.mono ?_; rintro e W1 ⟨a1, l1, p1, rfl, hr1, hp1, ho1⟩; have HT := hidden_ (And.intro hp1 ho1); have d35 := And.intro (boxed_off hA.out.2.1 (Off.drew ho1) rfl).cell (boxed_off hA.out.2.2 (Off.drew ho1) rfl).cell; clear hr1 hp1 ho1))
  go_wp2
  go_ret2
  exact ⟨_, _, _, rfl, RowI.nil _ _, HT.out.1, (Off.of_below hA.out.1).trans (Off.drew HT.out.2)⟩

theorem placed_call {B m : Nat} {w : World} {b g : Nat} {s : Pl} (h : PoolAt B w b g s) (hG : Good m s) (hm : 1 ≤ m) (t : ByteArray) (a : Option Addr) (L c : Nat) (W : List Int) (hW : ∀ w', Off B TP w w' → Reads .i8 w' a L W) :
    Calls Try.prog 76 #[.pointer (some ⟨b, 0, none⟩), .string t, .slice a L c] w fun e w' =>
      ∃ a' l' c', e = .returned (.tuple #[.slice a' l' c', .int .i64 (placeE s t W)]) ∧ RowI w.heap.size w' a' l' c' (placeR s t W) ∧ PoolAt B w' b g (placeS s t W) ∧ Off B TP w w' := by
  by_cases h0 : placeE s t W = 0
  · rw [h0]
    exact place_yes h hG hm t a L c W hW h0
  · have e1 : placeR s t W = [] := by unfold placeR takeR; exact if_neg h0
    have e2 : placeS s t W = s := by unfold placeS; rw [if_neg h0]
    rw [e1, e2]
    exact place_no h hG t a L c W (hW w (Off.refl _ _ _)) h0

theorem refPlaced_call {B m : Nat} {w : World} {b g : Nat} {s : Pl} {r : Nat → Nat} (h : RefAt B w b g s r) (hl : B ≤ w.heap.size) (hG : Good m s) (hm : 1 ≤ m) (t : ByteArray) (a : Option Addr) (L c : Nat) (W : List Int) (hW : ∀ w', Off B TR w w' → Reads .i8 w' a L W) :
    Calls Try.prog 64 #[.pointer (some ⟨b, 0, none⟩), .string t, .slice a L c] w fun e w' =>
      ∃ a' l' c', e = .returned (.tuple #[.slice a' l' c', .int .i64 (placeE s t W)]) ∧ RowI w.heap.size w' a' l' c' (placeR s t W) ∧ (∃ r', RefAt B w' b g (placeS s t W) r') ∧ Off B TR w w' := by
  have hW0 := hW w (Off.refl _ _ _)
  have hlen : W.length = L := hW0.len
  have hmax := hW0.max
  have k9 := refNeed_call (L : Int) (by omega) (by omega)
  obtain ⟨K, eK⟩ : ∃ K, needZ L = K := ⟨_, rfl⟩
  have k27 := refTakes_call h hl hG t K
  rw [eK] at k9
  have hE : placeE s t W = takeE s t K := by unfold placeE; rw [hlen, eK]
  have hR : placeR s t W = takeR s t K := by unfold placeR; rw [hlen, eK]
  by_cases h0 : placeE s t W = 0
  · have hS : placeS s t W = (putTo (takeS s t K) W (spots (takeR s t K) L)).2 := by unfold placeS; rw [if_pos h0, hR, hlen, eK]
    have hRl := placeR_len hG.a0 h0
    have hGt := hG.takeS hm t K
    rw [hE] at h0
    rw [hS, hE, hR, h0]
    rw [h0] at k27
    rw [hR, hlen] at hRl
    obtain ⟨R, eR⟩ : ∃ R, takeR s t K = R := ⟨_, rfl⟩
    obtain ⟨S, eS⟩ : ∃ S, takeS s t K = S := ⟨_, rfl⟩
    rw [eR, eS] at k27 ⊢
    rw [eR] at hRl
    rw [eS] at hGt
    have HW := hidden_ (fun w' (o : Off B TR w w') => (hW w' o).cell)
    have HX := hidden_ hW0.some_
    have HV := hidden_ (fun i => wrap_small (hW0.wf i))
    have HG := hidden_ hGt
    clear hR eR eS eK hE h0 h hG hW hW0 hS hGt
    go_enter Try.func64, Try.ntmps64
    go_wp2_with (first
      | (go_at_call 63; refine (k9 _).mono ?_; rintro e w' ⟨rfl, h1⟩; obtain rfl := h1.symm)
      | (go_at_call 35; refine k27.mono ?_; rintro e W1 ⟨a1, l1, p1, rfl, hr1, hp1, ho1⟩; have HT := hidden_ (And.intro hr1 (And.intro hp1 ho1)); clear hr1 hp1 ho1 k27 k9))
    go_loopw [10] (fun i wr => ∃ k : Nat, k ≤ L ∧ i = .int .i64 k ∧ (∃ r', RefAt B wr b g (putTo S W (spots R k)).2 r') ∧ RowI w.heap.size wr a1 l1 p1 R ∧ Off B TR w wr) (fun i _ => L - (intOf i).toNat)
    case atStart => exact ⟨0, Nat.zero_le _, rfl, HT.out.2.1, HT.out.1, HT.out.2.2⟩
    case round =>
      clear HT
      obtain ⟨k, hk, rfl, ⟨r', hp⟩, hrow, hoff⟩ := hrel
      by_cases hlt : k < L
      · obtain ⟨y, rfl⟩ := HX.out (by omega)
        obtain ⟨Q, eQ⟩ : ∃ Q : Nat, k / 32 = Q := ⟨_, rfl⟩
        obtain ⟨N, eN⟩ : ∃ N : Nat, k % 32 = N := ⟨_, rfl⟩
        have q1 : (k : Int).tdiv 32 = (Q : Int) := by rw [Int.tdiv_eq_ediv_of_nonneg (by omega)]; omega
        have q2 : (k : Int).tmod 32 = (N : Int) := by rw [Int.tmod_eq_emod_of_nonneg (by omega)]; omega
        have hl1 := hrow.len
        have q3 : Q < l1 := by omega
        have q4 : (Q : Int) < (l1 : Int) := by omega
        have q6 : IntKind.i64.wrap (Q : Int) = Q := wrap_nat (by omega)
        have q7 : IntKind.i64.wrap (N : Int) = N := wrap_nat (by omega)
        have q5 : (k : Int) < (L : Int) := by omega
        have hmx1 := hrow.reads.max
        obtain ⟨x, rfl⟩ := hrow.reads.some_ (by omega)
        obtain ⟨Z, eZ⟩ : ∃ Z, R.getD Q 0 = Z := ⟨_, rfl⟩
        have cx : wr.drew.cell? (x.add Q) = some (.int .i64 Z) := by rw [← eZ]; exact hrow.reads.cell x rfl Q q3
        have hv := HV.out k
        obtain ⟨V, eV⟩ : ∃ V, W.getD k 0 = V := ⟨_, rfl⟩
        have cv : wr.drew.cell? (y.add k) = some (.int .i8 V) := by rw [← eV]; exact HW.out wr hoff y rfl k hlt
        rw [eV] at hv
        have kP := refPut_call (hp.drewN 1) (HG.out.putTo W (spots R k)) Z (N : Int) V
        have hst : (putTo S W (spots R (k + 1))).2 = putS (putTo S W (spots R k)).2 Z (N : Int) V := by rw [spots_succ, putTo_snoc, spots_len, eV]; simp only [spot, eQ, eN, eZ]
        rw [← hst] at kP
        obtain ⟨E, eE⟩ : ∃ E, getE (putTo S W (spots R k)).2 Z (N : Int) = E := ⟨_, rfl⟩
        rw [eE] at kP
        have HR := hidden_ (And.intro hrow hoff)
        have HC : Hid (∀ W3 : World, Off B TR wr W3 → W3.cell? (x.add Q) = some (.int .i64 Z) ∧ W3.cell? (y.add k) = some (.int .i8 V)) := fun W3 o => ⟨by rw [← eZ]; exact (hrow.off o rfl).reads.cell x rfl Q q3, by rw [← eV]; exact HW.out W3 (hoff.trans o) y rfl k hlt⟩
        clear eE hst eZ eV eQ eN hp hrow hoff
        go_wp2
        go_region_held3 (fun W => W.cell? (x.add Q) = some (.int .i64 Z) ∧ W.cell? (y.add k) = some (.int .i8 V)) (first | assumption | (exact ⟨cx, cv⟩) | exact d35) (first
          | (go_at_call 80; refine kP.mono ?_; rintro e W3 ⟨rfl, hp3, ho3⟩; have ho3' : Off B TR wr W3 := Off.drew ho3; have d35 := HC.out W3 ho3'; have H3 := hidden_ (And.intro hp3 ho3'); clear hp3 ho3 ho3'))
        all_goals go_wp2
        all_goals go_roundw
        case rel => exact ⟨k + 1, by omega, by go_num, ⟨_, H3.out.1⟩, HR.out.1.off H3.out.2 rfl, HR.out.2.trans H3.out.2⟩
        case measure => simp [intOf]; omega
      · have e : k = L := by omega
        subst e
        have HR := hidden_ (And.intro hp (And.intro hrow hoff))
        clear hp hrow hoff
        go_wp2
        go_ret2
        exact ⟨_, _, _, rfl, HR.out.2.1, ⟨_, HR.out.1⟩, HR.out.2.2⟩
  · have e1 : placeR s t W = [] := by unfold placeR takeR; exact if_neg h0
    have e2 : placeS s t W = s := by unfold placeS; rw [if_neg h0]
    rw [e1, e2]
    have h0e : ¬ takeE s t K = 0 := by rw [← hE]; exact h0
    have hS : takeS s t K = s := by unfold takeS; exact if_neg h0e
    rw [hS] at k27
    rw [hE] at h0 ⊢
    obtain ⟨E, eE⟩ : ∃ E, takeE s t K = E := ⟨_, rfl⟩
    rw [eE] at k27 h0 ⊢
    have h0' : (E == 0) = false := by simp [h0]
    have h0'' : (E != 0) = true := by simp [h0]
    clear hR e1 e2 hS eE eK hE h hG hW hW0
    go_enter Try.func64, Try.ntmps64
    go_wp2_with (first
      | (go_at_call 63; refine (k9 _).mono ?_; rintro e w' ⟨rfl, h1⟩; obtain rfl := h1.symm)
      | (go_at_call 35; refine k27.mono ?_; rintro e W1 ⟨a1, l1, p1, rfl, hr1, hp1, ho1⟩; have HT := hidden_ (And.intro hp1 ho1); clear hr1 hp1 ho1))
    go_ret2
    exact ⟨_, _, _, rfl, RowI.nil _ _, HT.out.1, HT.out.2⟩

end Go.Proofs.Ytfggkkhehaafcaa
