/- Release of the program and of the document: their contracts. -/
import Derived.Test.YtfggkkhehaafcaaRows
import Derived.Test.YtfggkkhehaafcaaPages
import Derived.Test.YtfggkkhehaafcaaView
import Derived.Test.YtfggkkhehaafcaaOwn
import Derived.Test.YtfggkkhehaafcaaReadsP
import Derived.Test.YtfggkkhehaafcaaReadsQ
import Derived.Test.YtfggkkhehaafcaaLeast
import Derived.Test.YtfggkkhehaafcaaLays
import Derived.Test.YtfggkkhehaafcaaTurns
import Derived.Test.YtfggkkhehaafcaaGoods
import Derived.Test.YtfggkkhehaafcaaRefPg
import Derived.Test.YtfggkkhehaafcaaRefRd
import Derived.Test.YtfggkkhehaafcaaRefTk
import Derived.Test.YtfggkkhehaafcaaRefLays
import Derived.Test.YtfggkkhehaafcaaRefTurns
import Derived.Test.YtfggkkhehaafcaaPlain
import Derived.Test.YtfggkkhehaafcaaPlace
import Derived.WalkKit
import Derived.ProofKit
import Derived.OpenShut
import Derived.Below
import Derived.WalkLawsBesides
import Derived.Deep.QuietTactic
import Derived.BigQuiet
import Derived.RangeFuncNested
import Derived.RangeFuncBox
import Derived.RangeFuncBound
import Derived.RangeFuncCalls
import Derived.RangeFuncLeaves
import Derived.Shelf.Abstract
import Derived.Shelf.RegionOpen
import Derived.OwnWalkIn
import Derived.TacticsInMore
import Derived.LoopNIn
import Derived.LoopIn
import Derived.Maps.Own
import Derived.Maps.OwnOps
import Derived.Maps.Views
namespace Go.Proofs.Ytfggkkhehaafcaa
open Go.ChangeShapes Go.WideShapes Go.ChangeAt Go.RowKit
set_option linter.unusedVariables false

theorem take_snoc (P : List Int) (k : Nat) (h : k < P.length) : P.take (k + 1) = P.take k ++ [P.getD k 0] := by
  rw [List.take_add_one]
  simp [List.getD, h]
theorem count_snoc (l : List Int) (x z : Int) : (l ++ [x]).count z = l.count z + (if x = z then 1 else 0) := by
  rw [List.count_append, List.count_cons, List.count_nil]
  by_cases h : x = z <;> simp [h]
theorem count_take_le (P : List Int) (k : Nat) (z : Int) : (P.take k).count z ≤ P.count z := List.Sublist.count_le z (List.take_sublist k P)
theorem count_le_len (P : List Int) (z : Int) : P.count z ≤ P.length := List.count_le_length

/-- each page so far has owners enough -/
def OkTo (s : Pl) (P : List Int) (k : Nat) : Prop := ∀ z ∈ P.take k, ((P.take k).count z : Int) ≤ owZ s z
theorem OkTo.next {s : Pl} {P : List Int} {k : Nat} (h : OkTo s P k) (hk : k < P.length) (hc : (((P.take k).count (P.getD k 0) : Nat) : Int) + 1 ≤ owZ s (P.getD k 0)) : OkTo s P (k + 1) := by
  intro z hz
  rw [take_snoc P k hk] at hz ⊢
  rw [count_snoc]
  by_cases e : P.getD k 0 = z
  · subst e
    rw [if_pos rfl]
    omega
  · rw [if_neg e]
    rcases List.mem_append.1 hz with hz | hz
    · have := h z hz; omega
    · simp at hz; exact absurd hz.symm (by simpa using e)
theorem relB_bad {s : Pl} {P : List Int} {k : Nat} (hk : k < P.length) (hc : owZ s (P.getD k 0) < (((P.take k).count (P.getD k 0) : Nat) : Int) + 1) : relB s P = false := by
  cases e : relB s P with
  | false => rfl
  | true =>
    exfalso
    have h1 := (relB_iff s P).1 e (P.getD k 0) (by simp [List.getD, hk])
    have h2 := count_take_le P (k + 1) (P.getD k 0)
    rw [take_snoc P k hk, count_snoc, if_pos rfl] at h2
    omega
theorem relB_ok {s : Pl} {P : List Int} (h : OkTo s P P.length) : relB s P = true := by
  rw [relB_iff]
  intro z hz
  have := h z (by simpa using hz)
  simpa using this

theorem zero3 (w : World) : (zeroValue 3).run Try.prog w = .ok (.int .i64 0) w := by go_simp

set_option maxRecDepth 20000 in
set_option maxHeartbeats 2000000 in
theorem allOwned_call {B m : Nat} {w : World} {b g : Nat} {s : Pl} (h : PoolAt B w b g s) (hG : Good m s) (a : Option Addr) (L c : Nat) (P : List Int) (hP : Reads .i64 w a L P) (hL : L ≤ 100000) :
    Calls Try.prog 84 #[.pointer (some ⟨b, 0, none⟩), .slice a L c] w fun e w' => e = .returned (.bool (relB s P)) ∧ Below w.heap.size w w' := by
  have hlen := hP.len
  have hmm := @run_makeMap Try.prog
  have n1 := hG.n1
  have HH := hidden_ (And.intro h hP)
  obtain ⟨RB, eRB⟩ : ∃ RB, relB s P = RB := ⟨_, rfl⟩
  have HRB := hidden_ eRB
  rw [eRB]
  clear h hP hG eRB
  go_enter Try.func84, Try.ntmps84
  go_wp2
  go_loopw [11] (fun i wr => ∃ k : Nat, k ≤ L ∧ i = .int .i64 k ∧ OkTo s P k ∧ (∃ es : List (Lit × DataW Unit), wr.ownsMap Try.prog 3 (plainElem (H := Unit) Try.prog 3) w.heap.size k (.map es) ∧ ∀ z, (Lit.int .i64 z).wf = true → (DataW.map es).atKey (.int .i64 z) (.lit (.int .i64 0)) = .lit (.int .i64 ((P.take k).count z : Nat))) ∧ Below w.heap.size w wr) (fun i _ => L - (intOf i).toNat)
  case atStart => exact ⟨0, Nat.zero_le _, rfl, fun z hz => by simp at hz, ⟨[], World.ownsMap_made w Try.prog 3 _, fun z _ => by simp; rfl⟩, below_new (Below.refl _ _) _⟩
  case round =>
    obtain ⟨k, hk, rfl, hok, ⟨es, hown, hat⟩, hb⟩ := hrel
    by_cases hlt : k < L
    · obtain ⟨x, rfl⟩ := HH.out.2.some_ (by omega)
      have hwf := HH.out.2.wf k
      have cx := (HH.out.2.below hb).cell x rfl k hlt
      have hnx := OkTo.next hok (by omega)
      have hbad := relB_bad (s := s) (P := P) (k := k) (by omega)
      have hcl := count_le_len (P.take k) (P.getD k 0)
      have htk : (P.take k).length = k := by rw [List.length_take]; omega
      have ho := owners_call (HH.out.1.below hb) n1
      have hsn := take_snoc P k (by omega)
      obtain ⟨Z, eZ⟩ : ∃ Z, P.getD k 0 = Z := ⟨_, rfl⟩
      rw [eZ] at hwf cx hnx hbad hcl hsn
      obtain ⟨C, eC⟩ : ∃ C, (P.take k).count Z = C := ⟨_, rfl⟩
      rw [eC] at hnx hbad hcl
      have hkey := Maps.keyOf_int_mk Try.underlying3 hwf
      have hatZ := hat Z hwf
      rw [eC] at hatZ
      have hC : C ≤ 100000 := by omega
      have wfC : (Lit.int .i64 ((C : Int) + 1)).wf = true := wf_i64 (by omega) (by omega)
      obtain ⟨O, eO⟩ : ∃ O, owZ s Z = O := ⟨_, rfl⟩
      rw [eO] at hnx hbad
      have key : Hid (∀ w1 : World, w1.ownsMap Try.prog 3 (plainElem (H := Unit) Try.prog 3) w.heap.size (k + 1) ((DataW.map es).put (.int .i64 Z) (.lit (.int .i64 ((C : Int) + 1)))) → wr.grownBy w1 (some w.heap.size) →
          (∀ m', (Instr.lookup 120 (.map (some w.heap.size)) (.int .i64 Z) false).run Try.prog (w1.drewN m') = .ok (.int .i64 ((C : Int) + 1)) (w1.drewN m')) ∧ (∀ m', Calls Try.prog 51 #[.pointer (some ⟨b, 0, none⟩), .int .i64 Z] (w1.drewN m') fun e w' => e = .returned (.int .i64 O) ∧ w' = w1.drewN m') ∧ Below w.heap.size w w1) := by
        intro w1 q1 q2
        have hb1 : Below w.heap.size w w1 := hb.grown q2 hb.size (fun j e => by cases e; exact Nat.le_refl _)
        refine ⟨fun m' => ?_, fun m' => ?_, hb1⟩
        · obtain ⟨c, hrun, hat', _⟩ := World.ownsMap.lookup_int (w := w1.drewN m') (n := k + 1) (D := (DataW.map es).put (.int .i64 Z) (.lit (.int .i64 ((C : Int) + 1)))) q1 (Maps.int_keyed Try.underlying3) Try.underlying120 Try.underlying3 (zero3 _) hkey
          rw [Maps.atKey_put_same ⟨es, rfl⟩ (show WideAt.IsKeyLit (.int .i64 Z) from trivial)] at hat'
          have : c = (C : Int) + 1 := by simp only [DataW.lit.injEq, Lit.int.injEq, true_and] at hat'; exact hat'.symm
          rw [this] at hrun
          exact hrun
        · rw [← eO]
          exact owners_call ((HH.out.1.below hb1).drewN m') n1 Z
      have fin : Hid (∀ w1 : World, w1.ownsMap Try.prog 3 (plainElem (H := Unit) Try.prog 3) w.heap.size (k + 1) ((DataW.map es).put (.int .i64 Z) (.lit (.int .i64 ((C : Int) + 1)))) → ∀ m', ∃ es' : List (Lit × DataW Unit), (w1.drewN m').ownsMap Try.prog 3 (plainElem (H := Unit) Try.prog 3) w.heap.size (k + 1) (.map es') ∧ ∀ z, (Lit.int .i64 z).wf = true → (DataW.map es').atKey (.int .i64 z) (.lit (.int .i64 0)) = .lit (.int .i64 ((P.take (k + 1)).count z : Nat))) := by
        intro w1 q1 m'
        refine ⟨_, q1, fun z hz => ?_⟩
        rw [hsn, count_snoc]
        by_cases e : Z = z
        · subst e
          rw [if_pos rfl, eC]
          exact (Maps.atKey_put_same (H := Unit) (D := .map es) ⟨es, rfl⟩ (show WideAt.IsKeyLit (.int .i64 Z) from trivial) _ _)
        · rw [if_neg e, Nat.add_zero]
          exact (Maps.atKey_put_other (H := Unit) (D := .map es) (k := .int .i64 Z) (k' := .int .i64 z) (by simpa using Ne.symm e) _ _).trans (hat z hz)
      obtain ⟨T, eT⟩ : ∃ T, (C : Int) + 1 = T := ⟨_, rfl⟩
      have hT0 : 0 ≤ T := by omega
      have hT1 : T ≤ 100001 := by omega
      rw [eT] at key fin wfC hbad hnx
      by_cases hc : O < T
      · have hr := hbad hc
        rw [HRB.out] at hr
        subst hr
        clear hnx hbad hat eC eZ eO hsn hok ho fin htk hb
        go_wp2_with (first
          | (at_lookup; refine wpList_lookup_own_int _ rfl _ _ 120 rfl 3 3 .i64 (Maps.int_keyed Try.underlying3) Try.underlying120 Try.underlying3 (zero3 _) w.heap.size k _ rfl hown _ _ rfl hkey ?_; intro c9 hat9 hwc9; obtain rfl : c9 = (C : Int) := by (rw [hatZ] at hat9; simp only [DataW.lit.injEq, Lit.int.injEq, true_and] at hat9; exact hat9.symm))
          | (at_mapUpdate; refine wpList_mapUpdate_own _ rfl _ _ _ 120 rfl 3 3 (Maps.int_keyed Try.underlying3) Try.underlying120 _ w.heap.size k _ rfl hown (by unfold maxLen; omega) _ _ _ rfl rfl hkey _ [] (plainElem_int Try.underlying3 wfC) ?_; intro w1 hown1 hgrow1; obtain ⟨y1, y2, y3⟩ := key.out w1 hown1 hgrow1; have H3 := hidden_ y3; clear y3 hown1 hgrow1))
        go_quiet (first | (go_at_call 51; exact Calls.quiet_of_same (y2 _)))
        go_wp2
        go_ret
        exact ⟨rfl, below_drew H3.out ⟨_, rfl⟩⟩
      · have hn := hidden_ (hnx (by omega))
        clear hnx hbad hat eC eZ eO hsn hok ho htk hb
        go_wp2_with (first
          | (at_lookup; refine wpList_lookup_own_int _ rfl _ _ 120 rfl 3 3 .i64 (Maps.int_keyed Try.underlying3) Try.underlying120 Try.underlying3 (zero3 _) w.heap.size k _ rfl hown _ _ rfl hkey ?_; intro c9 hat9 hwc9; obtain rfl : c9 = (C : Int) := by (rw [hatZ] at hat9; simp only [DataW.lit.injEq, Lit.int.injEq, true_and] at hat9; exact hat9.symm))
          | (at_mapUpdate; refine wpList_mapUpdate_own _ rfl _ _ _ 120 rfl 3 3 (Maps.int_keyed Try.underlying3) Try.underlying120 _ w.heap.size k _ rfl hown (by unfold maxLen; omega) _ _ _ rfl rfl hkey _ [] (plainElem_int Try.underlying3 wfC) ?_; intro w1 hown1 hgrow1; obtain ⟨y1, y2, y3⟩ := key.out w1 hown1 hgrow1; have H3 := hidden_ (And.intro y3 (fin.out w1 hown1)); clear y3 hown1 hgrow1))
        go_quiet (first | (go_at_call 51; exact Calls.quiet_of_same (y2 _)))
        go_wp2
        go_roundw
        case rel => exact ⟨k + 1, by omega, by go_num, hn.out, H3.out.2 _, below_drew H3.out.1 ⟨_, rfl⟩⟩
        case measure => simp [intOf]; omega
    · have e : k = L := by omega
      subst e
      have hr : RB = true := by rw [← HRB.out]; exact relB_ok (by rw [hlen]; exact hok)
      subst hr
      have HB := hidden_ hb
      clear hok hown hat hb
      go_wp2
      go_ret
      exact ⟨rfl, HB.out⟩

theorem drops_snoc (s : Pl) (P : List Int) (k : Nat) (h : k < P.length) : (P.take (k + 1)).foldl drS s = drS ((P.take k).foldl drS s) (P.getD k 0) := by
  rw [take_snoc P k h, List.foldl_append]
  rfl

theorem release_call {B m : Nat} {w : World} {b g : Nat} {s : Pl} (h : PoolAt B w b g s) (hG : Good m s) (hm : m ≤ 1000000) (a : Option Addr) (L c : Nat) (P : List Int) (hP : ∀ w', Off B TP w w' → Reads .i64 w' a L P) (hL : L ≤ 100000) :
    Calls Try.prog 79 #[.pointer (some ⟨b, 0, none⟩), .slice a L c] w fun e w' => e = .returned (.int .i64 (relE s P)) ∧ PoolAt B w' b g (relS s P) ∧ Off B TP w w' := by
  have hP0 := hP w (Off.refl _ _ _)
  have hlen := hP0.len
  have k30 := allOwned_call h hG a L c P hP0 hL
  have HH := hidden_ h
  by_cases hr : relB s P = true
  · have e1 : relE s P = 0 := by unfold relE; rw [if_pos hr]
    have e2 : relS s P = P.foldl drS s := by unfold relS; rw [if_pos hr]
    rw [e1, e2]
    rw [hr] at k30
    have HP := hidden_ (fun w' (o : Off B TP w w') => (hP w' o).cell)
    have HX := hidden_ hP0.some_
    have HG := hidden_ hG
    clear e1 e2 hr h hG hP hP0
    go_enter Try.func79, Try.ntmps79
    go_wp2_with (first | (go_at_call 84; refine k30.mono ?_; rintro e W1 ⟨rfl, hb1⟩; have HB := hidden_ hb1; clear hb1 k30))
    go_loopw [13] (fun i wr => ∃ k : Nat, k ≤ L ∧ i = .int .i64 k ∧ PoolAt B wr b g ((P.take k).foldl drS s) ∧ Off B TP w wr) (fun i _ => L - (intOf i).toNat)
    case atStart => exact ⟨0, Nat.zero_le _, rfl, HH.out.below HB.out, Off.of_below HB.out⟩
    case round =>
      clear HB
      obtain ⟨k, hk, rfl, hp, ho⟩ := hrel
      by_cases hlt : k < L
      · obtain ⟨x, rfl⟩ := HX.out (by omega)
        have cx := HP.out wr ho x rfl k hlt
        have kD := drop_call hp (Good.drops (P.take k) HG.out) hm (P.getD k 0)
        rw [← drops_snoc s P k (by omega)] at kD
        obtain ⟨Z, eZ⟩ : ∃ Z, P.getD k 0 = Z := ⟨_, rfl⟩
        rw [eZ] at cx kD
        obtain ⟨E, eE⟩ : ∃ E, shE ((P.take k).foldl drS s) Z = E := ⟨_, rfl⟩
        rw [eE] at kD
        obtain ⟨S1, eS1⟩ : ∃ S1, (P.take (k + 1)).foldl drS s = S1 := ⟨_, rfl⟩
        rw [eS1] at kD
        have HS := hidden_ eS1
        have HO := hidden_ ho
        clear eZ eE hp ho eS1
        go_wp2_with (first | (go_at_call 37; refine kD.mono ?_; rintro e W2 ⟨rfl, hp2, ho2⟩; have H2 := hidden_ (And.intro hp2 ho2); clear hp2 ho2))
        go_roundw
        case rel => exact ⟨k + 1, by omega, by go_num, by rw [HS.out]; exact H2.out.1, HO.out.trans H2.out.2⟩
        case measure => simp [intOf]; omega
      · have e : k = L := by omega
        subst e
        rw [← hlen, List.take_length] at hp
        have HR := hidden_ (And.intro hp ho)
        clear hp ho
        go_wp2
        go_ret
        exact ⟨rfl, HR.out.1, HR.out.2⟩
  · have e1 : relE s P = 25 := by unfold relE; rw [if_neg hr]
    have e2 : relS s P = s := by unfold relS; rw [if_neg hr]
    rw [e1, e2]
    rw [show relB s P = false by simpa using hr] at k30
    clear e1 e2 hr h hG hP hP0
    go_enter Try.func79, Try.ntmps79
    go_wp2_with (first | (go_at_call 84; refine k30.mono ?_; rintro e W1 ⟨rfl, hb1⟩; have HB := hidden_ hb1; clear hb1 k30))
    go_ret
    exact ⟨rfl, HH.out.below HB.out, Off.of_below HB.out⟩

end Go.Proofs.Ytfggkkhehaafcaa
