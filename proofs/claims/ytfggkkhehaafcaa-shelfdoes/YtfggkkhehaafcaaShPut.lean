/- Weights are put on the program's shelf. -/
import Derived.Test.YtfggkkhehaafcaaRows
import Derived.Test.YtfggkkhehaafcaaPages
import Derived.Test.YtfggkkhehaafcaaView
import Derived.Test.YtfggkkhehaafcaaOwn
import Derived.Test.YtfggkkhehaafcaaReadsP
import Derived.Test.YtfggkkhehaafcaaReadsQ
import Derived.Test.YtfggkkhehaafcaaLeast
import Derived.Test.YtfggkkhehaafcaaLays
import Derived.Test.YtfggkkhehaafcaaGoods
import Derived.Test.YtfggkkhehaafcaaPlain
import Derived.Test.YtfggkkhehaafcaaLies
import Derived.Test.YtfggkkhehaafcaaCopies
import Derived.Test.YtfggkkhehaafcaaFetch
import Derived.Test.YtfggkkhehaafcaaFetched
import Derived.Test.YtfggkkhehaafcaaRelease
import Derived.Test.YtfggkkhehaafcaaMapV
import Derived.Test.YtfggkkhehaafcaaShPlain
import Derived.Test.YtfggkkhehaafcaaShActs
import Derived.Test.YtfggkkhehaafcaaShAt
import Derived.Test.YtfggkkhehaafcaaIndex
import Derived.Test.YtfggkkhehaafcaaDelete
import Derived.Test.YtfggkkhehaafcaaShRd
import Derived.Test.YtfggkkhehaafcaaShTurn
import Derived.Test.YtfggkkhehaafcaaShRel
import Derived.Test.YtfggkkhehaafcaaShLoose
import Derived.Test.YtfggkkhehaafcaaShRoom
import Derived.WalkKit
import Derived.ProofKit
import Derived.OpenShut
import Derived.Below
import Derived.WalkLawsBesides
import Derived.Deep.QuietTactic
import Derived.BigQuiet
import Derived.Maps.OwnSet
import Derived.Deep.RegionWith
namespace Go.Proofs.Ytfggkkhehaafcaa
open Go.ChangeShapes Go.WideShapes Go.ChangeAt Go.RowKit
set_option linter.unusedVariables false
set_option linter.unusedSimpArgs false

theorem lot_new {B : Nat} {w : World} {wa : Option Addr} {l wc : Nat} {W : List Int} (n : ByteArray) (hr : RowB B w wa l wc W) (hB : B ≤ w.heap.size) : LotAt B (w.alloc (.cells #[.slice wa l wc, .slice none 0 0, .int .i64 0] 80)) w.heap.size ⟨n, W, [], false, 0⟩ := by
  have hn := heap_alloc_new w (.cells #[.slice wa l wc, .slice none 0 0, .int .i64 0] 80)
  have hl := hr.len
  subst hl
  refine ⟨hB, ⟨_, hn, rfl⟩, ⟨wa, wc, ?_, hr.keep fun k hk => ?_⟩, ⟨none, 0, ?_, RowI.nil _ _⟩, ?_⟩
  · unfold World.cell?; rw [hn]; rfl
  · obtain ⟨_, m, r⟩ := own_blk hr.own hk
    exact heap_alloc_old w _ r.lt
  · unfold World.cell?; rw [hn]; rfl
  · unfold World.cell?; rw [hn]; rfl

theorem put14_call {B : Nat} {w : World} {x mb b : Nat} {A : ByteArray → Nat} {a : Option Addr} {c : Nat} {L : List It} {N : Nat} (h : ShAt B w x mb b A a c (names L) L N) (hN : N < 1000000) (n : ByteArray) (hn : n.size ≤ maxLen) (wa : Option Addr) (l wc : Nat) (W : List Int) (hW : Reads .i8 w wa l W) (hc : wa = none → wc = 0) (hl : l ≤ 2000) :
    Calls Try.prog 23 #[.pointer (some ⟨x, 0, none⟩), .string n, .slice wa l wc] w fun e w' => e = .returned (.int .i64 (putE L n)) ∧ (∃ A', ShAt B w' x mb b A' a c (names (putL L n W)) (putL L n W) (N + 1)) ∧ OffS B (fun _ => false) (fun k => k = mb) w w' := by
  have c1 := h.c1
  have hk := h.lookW n hn
  by_cases h0 : n.size < 1 ∨ 16 < n.size
  · have e0 : putE L n = 20 := by unfold putE; rw [if_pos h0]
    have e1 : putL L n W = L := by unfold putL; rw [if_neg (by rw [e0]; decide)]
    rw [e0, e1]
    have HH := hidden_ (show ShAt B w x mb b A a c (names L) L (N + 1) from { h with map := h.map.mono (Nat.le_succ _) })
    obtain ⟨m, em⟩ : ∃ m, n.size = m := ⟨_, rfl⟩
    rw [em] at h0 hn
    have hm : m ≤ 9223372036854775807 := by unfold maxLen at hn; omega
    clear h e0 e1 hW hk hn
    by_cases h1 : m < 1
    · have d1 : (m : Int) < 1 := by omega
      clear h0
      go_enter Try.func23, Try.ntmps23
      go_wp2
      go_ret
      exact ⟨rfl, ⟨A, HH.out⟩, OffS.refl _ _ _ _⟩
    · have d1 : ¬ (m : Int) < 1 := by omega
      have d2 : (16 : Int) < (m : Int) := by omega
      clear h0
      go_enter Try.func23, Try.ntmps23
      go_wp2
      go_ret
      exact ⟨rfl, ⟨A, HH.out⟩, OffS.refl _ _ _ _⟩
  · have hm1 : ¬ (n.size : Int) < 1 := by omega
    have hm2 : ¬ (16 : Int) < (n.size : Int) := by omega
    cases hi : look L n with
    | some it =>
      have e0 : putE L n = 26 := by unfold putE; rw [if_neg h0, hi]
      have e1 : putL L n W = L := by unfold putL; rw [if_neg (by rw [e0]; decide)]
      rw [e0, e1]
      rw [ptr_some hi] at hk
      have HH := hidden_ (show ShAt B w x mb b A a c (names L) L (N + 1) from { h with map := h.map.mono (Nat.le_succ _) })
      obtain ⟨m, em⟩ : ∃ m, n.size = m := ⟨_, rfl⟩
      rw [em] at hm1 hm2
      clear h e0 e1 hW hi hn h0
      go_enter Try.func23, Try.ntmps23
      go_wp2
      go_ret
      exact ⟨rfl, ⟨A, HH.out⟩, OffS.refl _ _ _ _⟩
    | none =>
      have e0 : putE L n = 0 := by unfold putE; rw [if_neg h0, hi]
      have e1 : putL L n W = L ++ [⟨n, W, [], false, 0⟩] := by unfold putL; rw [if_pos e0]
      rw [e0, e1]
      rw [ptr_none hi] at hk
      have kC := cloneB_call (hW.drewN 1) hc (by omega)
      have key : Hid (∀ w1 ca cc, RowB w.heap.size w1 ca l cc W → Below w.heap.size w w1 → w1.cell? ⟨x, 1, none⟩ = some (.map (some mb)) ∧ (w1.alloc (.cells #[.slice ca l cc, .slice none 0 0, .int .i64 0] 80)).cell? ⟨x, 1, none⟩ = some (.map (some mb)) ∧
          ∃ w2, (Instr.mapUpdate 69 (.map (some mb)) (.string n) (.pointer (some ⟨w1.heap.size, 0, none⟩))).run Try.prog (w1.alloc (.cells #[.slice ca l cc, .slice none 0 0, .int .i64 0] 80)) = .ok () w2 ∧
          (∃ A', ShAt B w2 x mb b A' a c (names (L ++ [⟨n, W, [], false, 0⟩])) (L ++ [⟨n, W, [], false, 0⟩]) (N + 1)) ∧ OffS B (fun _ => false) (fun k => k = mb) w w2) := hidden_ (fun w1 ca cc hr hb => by
        have hBw : B ≤ w.heap.size := by have := h.Bx; have := h.top.lt; omega
        have h1 := h.below hb
        have hb2 := below_new (Below.refl w1.heap.size w1) (.cells #[.slice ca l cc, .slice none 0 0, .int .i64 0] 80)
        have h2 := h1.below hb2
        have hl2 := lot_new n (hr.mono hBw) (Nat.le_trans hBw hb.size)
        obtain ⟨W2, eW2⟩ : ∃ W2, w1.alloc (.cells #[.slice ca l cc, .slice none 0 0, .int .i64 0] 80) = W2 := ⟨_, rfl⟩
        rw [eW2] at hb2 h2 hl2 ⊢
        refine ⟨h1.c1, h2.c1, ?_⟩
        obtain ⟨w2, hrun, hmap, ht⟩ := h2.map.store 69 76 Try.underlying69 n hn (by unfold maxLen; omega) (.pointer (some ⟨w1.heap.size, 0, none⟩))
        refine ⟨w2, hrun, ⟨updT A n w1.heap.size, ?_⟩, ?_⟩
        · have hnew := look_none hi
          have q := h2.add ⟨n, W, [], false, 0⟩ w1.heap.size hnew (fun y hy e => by
            have := (h1.lot y hy).top.lt
            omega) hl2 hmap ht
          rw [names_snoc, if_neg (by simp), List.append_nil]
          exact q
        · have o1 : OffS B (fun _ => false) (fun k => k = mb) w W2 := OffS.of_below (below_then hb hb2)
          refine o1.then_ ⟨ht.grown.os, ht.grown.tape, ht.grown.output, ht.grown.size, fun i hi' hc => ht.grown.block i hi' ?_⟩
          intro e
          have e' : i = mb := by simpa using e
          subst e'
          rcases hc with hc | hc
          · have := h.Bm; omega
          · exact hc.1 rfl)
      obtain ⟨m, em⟩ : ∃ m, n.size = m := ⟨_, rfl⟩
      rw [em] at hm1 hm2
      clear h e0 e1 hW hi hn h0 hc
      go_enter Try.func23, Try.ntmps23
      go_wp2
      go_region_with (first | (go_at_call 54; refine kC.mono ?_; rintro e w1 ⟨⟨ca, cc, rfl, hr⟩, hb⟩; obtain ⟨q1, q2, w2, q3, q4, q5⟩ := key.out w1 ca cc hr ⟨hb.os, hb.tape, hb.output, hb.size, hb.block⟩; have HQ := hidden_ (And.intro q4 q5); clear q4 q5 hr hb key kC))
      all_goals
        go_wp2
        go_ret
        exact ⟨rfl, HQ.out.1, HQ.out.2⟩

end Go.Proofs.Ytfggkkhehaafcaa
