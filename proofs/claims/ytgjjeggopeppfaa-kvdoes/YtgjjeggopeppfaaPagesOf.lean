/- The program tells a sequence's pages in a row of their own: the contract. -/
import Derived.Test.YtgjjeggopeppfaaRows
import Derived.Test.YtgjjeggopeppfaaPages
import Derived.Test.YtgjjeggopeppfaaBasis
import Derived.Test.YtgjjeggopeppfaaLeast
import Derived.Test.YtgjjeggopeppfaaLays
import Derived.Test.YtgjjeggopeppfaaTurns
import Derived.Test.YtgjjeggopeppfaaGoods
import Derived.Test.YtgjjeggopeppfaaLies
import Derived.Test.YtgjjeggopeppfaaSeqP
import Derived.Test.YtgjjeggopeppfaaSeqRN
import Derived.Test.YtgjjeggopeppfaaReadsB
import Derived.WalkKit
import Derived.ProofKit
import Derived.OpenShut
import Derived.Below
import Derived.WalkLawsBesides
import Derived.Deep.QuietTactic
import Derived.BigQuiet
import Derived.Laws.OwnMore
import Derived.OwnWalk
import Derived.Laws.CopyOwn
namespace Go.Proofs.Ytgjjeggopeppfaa
open Go.ChangeShapes Go.WideShapes Go.ChangeAt Go.RowKit
set_option linter.unusedVariables false
set_option linter.unusedSimpArgs false

theorem made_parts {w w1 : World} {L : Nat} {xs : List Value} (hown : w1.ownsRow w.heap.size 3 1 (.slice (some ⟨w.heap.size, 0, none⟩) L L) L xs) (hgrow : w.grownBy w1 none) : Below w.heap.size w w1 ∧ ∃ cur : List Value, w1.heap[w.heap.size]? = some (.cells cur.toArray 3 (0, 0)) ∧ cur.length = L := by
  refine ⟨(Below.refl _ _).grown hgrow (Nat.le_refl _) (fun k h => by cases h), ?_⟩
  rcases hown.2 with ⟨h', _⟩ | ⟨g', cap', cur, h', hb', hg', hn', hm', hs', ht'⟩
  · cases h'
  · simp only [Value.slice.injEq, Option.some.injEq, Addr.mk.injEq, and_true, true_and] at h'
    obtain ⟨rfl, rfl⟩ := h'
    exact ⟨cur.toList, by simpa using hg', by simpa using hs'⟩
theorem size_info {it : TypeInfo} (hi : Try.prog.info? 3 = some it) (h1 : it.size = 1) : (Try.prog.info? 3).map (·.size) = some 1 := by rw [hi]; simp [h1]
theorem min_len {P : List Int} {L : Nat} (h : P.length = L) : (P.map (Value.int .i64)).length = Nat.min L L := by simp [h]
theorem fit_len0 {P : List Int} {L : Nat} {cur : List Value} (h : P.length = L) (hc : cur.length = L) : 0 + (P.map (Value.int .i64)).length ≤ cur.length := by simp [h, hc]
theorem ints_one (P : List Int) : ∀ v ∈ P.map (Value.int .i64), v.oneCell' = true := fun v hv => by obtain ⟨z, _, rfl⟩ := List.mem_map.1 hv; rfl
theorem copy_src {w : World} {a : Option Addr} {L g : Nat} {P : List Int} (h : Reads .i64 w a L P) : 0 < (P.map (Value.int .i64)).length → (some (⟨g, 0, none⟩ : Addr) = some ⟨g, 0, none⟩) ∧ ∃ ad, a = some ad ∧ ∀ j v, (P.map (Value.int .i64))[j]? = some v → w.cell? (ad.add j) = some v := by
  intro hpos
  have hlen := h.len
  obtain ⟨y, rfl⟩ := h.some_ (by simpa [hlen] using hpos)
  refine ⟨rfl, y, rfl, fun j v hj => ?_⟩
  have hjl : j < L := by have := (List.getElem?_eq_some_iff.1 hj).1; simpa [hlen] using this
  rw [h.cell y rfl j hjl, ← hj, ints_at _ j (by rw [hlen]; exact hjl)]

theorem run_copyP {w w1 : World} {L c : Nat} {a : Option Addr} {P : List Int} {xs : List Value} (hL : L ≤ 1000) (hown : w1.ownsRow w.heap.size 3 1 (.slice (some ⟨w.heap.size, 0, none⟩) L L) L xs) (hgrow : w.grownBy w1 none) (h : Reads .i64 w1 a L P) :
    ∃ W2, (Builtin.copy_ #[49, 49] 3 #[.slice (some ⟨w.heap.size, 0, none⟩) L L, .slice a L c]).run Try.prog w1 = .ok (.int .i64 L) W2 ∧ RowI w.heap.size W2 (some ⟨w.heap.size, 0, none⟩) L L P ∧ Below w.heap.size w W2 := by
  obtain ⟨it, hi, hz0, hz1, hz2⟩ := info_parts info3
  obtain ⟨hbel, cur, hcur, hcs⟩ := made_parts hown hgrow
  have hlen := h.len
  by_cases h0 : L = 0
  · subst h0
    have := run_copy_none (P := Try.prog) w1 49 49 3 3 (some ⟨w.heap.size, 0, none⟩) a 0 0 0 c Try.underlying49 (size_info hi hz1) rfl
    refine ⟨w1, this, ⟨hlen, ?_, h.wf_mem⟩, hbel⟩
    obtain rfl := List.eq_nil_of_length_eq_zero hlen
    have e : xs = [] := List.eq_nil_of_length_eq_zero (own_length hown)
    rw [e] at hown
    exact hown
  · obtain ⟨_, y, rfl, hs⟩ := copy_src (g := w.heap.size) h (by simp [hlen]; omega)
    have := run_copy_row (P := Try.prog) w1 49 49 3 3 w.heap.size 0 L L y L c cur.toArray 3 (P.map (Value.int .i64)) Try.underlying49 (size_info hi hz1) hcur (min_len hlen) hs (by simpa using fit_len0 hlen hcs) (ints_one P)
    have e : (cur.toArray.toList.take 0 ++ P.map (Value.int .i64) ++ cur.toArray.toList.drop (0 + (P.map (Value.int .i64)).length)) = P.map (Value.int .i64) := by
      rw [List.take_zero, List.nil_append, List.drop_of_length_le (by simp [hlen, hcs]), List.append_nil]
    rw [e, List.length_map, hlen] at this
    refine ⟨_, this, ⟨hlen, ⟨by simp [hlen], .inr ⟨_, _, _, rfl, Nat.le_refl _, setRow_heap w1 _ _ _ 3 (0, 0) hcur, Nat.le_refl _, by unfold maxLen; omega, by simp [hlen], List.take_of_length_le (by simp [hlen])⟩⟩, h.wf_mem⟩, ?_⟩
    refine ⟨hbel.os, hbel.tape, hbel.output, ?_, fun k hk => ?_⟩
    · have := hbel.size
      simpa [World.setRow] using this
    · rw [← hbel.block k hk]
      exact setRow_other w1 _ k _ (by omega)

theorem pages_call {B : Nat} {w : World} {x b : Nat} {t : ByteArray} {wd : Nat} {q : Sq} {a : Option Addr} {c : Nat} (h : SeqAt B w x b t wd q a c) (hl : q.P.length ≤ 1000) :
    Calls Try.prog 30 #[.pointer (some ⟨x, 0, none⟩)] w fun e w' => ∃ ra rc, e = .returned (.slice ra q.P.length rc) ∧ RowI w.heap.size w' ra q.P.length rc q.P ∧ Below w.heap.size w w' := by
  obtain ⟨it, hi, hz0, hz1, hz2⟩ := info_parts info3
  have c5 := h.c5
  have H := hidden_ h
  obtain ⟨L, eL⟩ : ∃ L, q.P.length = L := ⟨_, rfl⟩
  rw [eL] at c5 hl ⊢
  have HL := hidden_ eL
  clear h eL
  go_enter Try.func30, Try.ntmps30
  go_wp2_with (first
    | (at_make; refine wpList_make_full _ rfl (.tmp 8) (.tmp 8) 49 rfl w.heap.size 3 it (.int .i64 0) 1 Try.underlying49 hi hz0 hz1 .i64 .i64 _ _ L rfl rfl rfl rfl (by rw [hz2]; omega) (by unfold maxLen; omega) (Nat.le_refl _) ?_; intro w1 hown hgrow; have hbel := (made_parts hown hgrow).1; have hrd := (H.out.below hbel).pg.reads; rw [HL.out] at hrd; have c5' := (H.out.below hbel).c5; rw [HL.out] at c5'; obtain ⟨W2, hcp, hr2⟩ := run_copyP (c := c) hl hown hgrow hrd; have HF := hidden_ hr2; clear hr2 hown hgrow hbel hrd))
  go_wp2
  go_ret
  exact ⟨_, _, rfl, HF.out.1, HF.out.2⟩

end Go.Proofs.Ytgjjeggopeppfaa
