/- Texts put together: FkS, FkE. -/
import Derived.Test.YtgjjeggopeppfaaRows
import Derived.Test.YtgjjeggopeppfaaPages
import Derived.Test.YtgjjeggopeppfaaBasis
import Derived.Test.YtgjjeggopeppfaaLeast
import Derived.Test.YtgjjeggopeppfaaLays
import Derived.Test.YtgjjeggopeppfaaTurns
import Derived.Test.YtgjjeggopeppfaaGoods
import Derived.Test.YtgjjeggopeppfaaNews
import Derived.Test.YtgjjeggopeppfaaCount
import Derived.Test.YtgjjeggopeppfaaLies
import Derived.Test.YtgjjeggopeppfaaRefA
import Derived.Test.YtgjjeggopeppfaaRefTk
import Derived.Test.YtgjjeggopeppfaaSeqP
import Derived.Test.YtgjjeggopeppfaaSeqRN
import Derived.Test.YtgjjeggopeppfaaReadsB
import Derived.Test.YtgjjeggopeppfaaRooms
import Derived.Test.YtgjjeggopeppfaaManys
import Derived.Test.YtgjjeggopeppfaaSeqsIn
import Derived.Test.YtgjjeggopeppfaaSolo
import Derived.Test.YtgjjeggopeppfaaOpenOps
import Derived.WalkKit
import Derived.ProofKit
import Derived.OpenShut
import Derived.Below
import Derived.WalkLawsBesides
import Derived.Deep.QuietTactic
import Derived.BigQuiet
import Derived.OwnWalk
import Derived.Maps.AppendAt
import Derived.Laws.OwnMore
namespace Go.Proofs.Ytgjjeggopeppfaa

/- KvForks between two acts: what holds of the sequences and of the seeds of the rows, and behind each act. -/
section
open Go.ChangeShapes Go.WideShapes Go.ChangeAt Go.RowKit
set_option linter.unusedVariables false
set_option linter.unusedSimpArgs false

/-- the cells of a row of rows -/
def sls (Y : Nat → SL) (k : Nat) : List Value := (List.range k).map fun i => (Y i).v
theorem sls_len (Y : Nat → SL) (k : Nat) : (sls Y k).length = k := by simp [sls]
theorem sls_at (Y : Nat → SL) (k i : Nat) (h : i < k) : (sls Y k)[i]? = some (.slice (Y i).a (Y i).n (Y i).c) := by simp [sls, h, SL.v]
theorem sls_snoc (Y : Nat → SL) (k : Nat) (y : SL) : sls (upd Y k y) (k + 1) = sls Y k ++ [.slice y.a y.n y.c] := by
  unfold sls
  rw [List.range_succ, List.map_append]
  congr 1
  · apply List.map_congr_left
    intro i hi
    rw [upd_other _ _ _ _ (by have := List.mem_range.1 hi; omega)]
  · simp [upd_same, SL.v]
theorem sls_set (Y : Nat → SL) (k i : Nat) (y : SL) (hi : i < k) : (sls Y k).set i (.slice y.a y.n y.c) = sls (upd Y i y) k := by
  apply List.ext_getElem?
  intro j
  by_cases hj : j < k
  · by_cases e : i = j
    · subst e
      rw [List.getElem?_set_self (by rw [sls_len]; exact hi), sls_at _ _ _ hj, upd_same]
    · rw [List.getElem?_set_ne e, sls_at _ _ _ hj, sls_at _ _ _ hj, upd_other _ _ _ _ (Ne.symm e)]
  · rw [List.getElem?_eq_none (by rw [List.length_set, sls_len]; omega), List.getElem?_eq_none (by rw [sls_len]; omega)]
theorem one_slice (a : Option Addr) (n c : Nat) : ∀ u ∈ [Value.slice a n c], u.oneCell' = true := by
  intro u hu
  simp at hu
  subst hu
  rfl

/-- a row is copied into a new one, and one number more put behind -/
theorem run_copyJ1 (w : World) (a : Option Addr) (n c : Nat) (zs : List Int) (hs : Reads .i64 w a n zs) (hn : n ≤ 1000) (z : Int) (hz : (Lit.int .i64 z).wf = true) :
    ∃ ca cc W2 ca' cc' W3, (Builtin.append_ #[39, 39] 39 #[.slice (some ⟨w.heap.size, 0, none⟩) 0 0, .slice a n c]).run Try.prog (w.alloc (.cells #[] 2)) = .ok (.slice ca n cc) W2 ∧
      (Builtin.append_ #[39, 39] 39 #[.slice ca n cc, .slice (some ⟨W2.heap.size, 0, none⟩) 1 1]).run Try.prog (W2.alloc (.cells #[.int .i64 z] 2)) = .ok (.slice ca' (n + 1) cc') W3 ∧ Below w.heap.size w W2 ∧ RowJ w.heap.size W3 ca' (n + 1) cc' (zs ++ [z]) ∧ Below w.heap.size w W3 := by
  obtain ⟨i0, hi, hz0, hz1, hz2⟩ := info_parts info2
  have hlen := hs.len
  have hown : (w.alloc (.cells #[] 2)).ownsRow w.heap.size 2 1 (.slice (some ⟨w.heap.size, 0, none⟩) 0 0) 0 [] := World.ownsRow_lit w #[] 0 (Nat.le_refl _) (by decide) rfl
  have hb1 := below_new (Below.refl w.heap.size w) (.cells #[] 2)
  obtain ⟨ca, cc, W2, e1, o1, b1⟩ : ∃ ca cc W2, (Builtin.append_ #[39, 39] 39 #[.slice (some ⟨w.heap.size, 0, none⟩) 0 0, .slice a n c]).run Try.prog (w.alloc (.cells #[] 2)) = .ok (.slice ca n cc) W2 ∧ W2.ownsRow w.heap.size 2 1 (.slice ca n cc) n (zs.map (Value.int .i64)) ∧ Below w.heap.size w W2 := by
    by_cases h0 : n = 0
    · subst h0
      obtain rfl : zs = [] := List.eq_nil_of_length_eq_zero hlen
      refine ⟨some ⟨w.heap.size, 0, none⟩, 0, w.alloc (.cells #[] 2), ?_, hown, hb1⟩
      cases a with
      | none => simp [Builtin.append_, run_underlying Try.underlying39, sizeOf, typeInfo, hi, Builtin.lenOf, Builtin.firstCells, storeCells]
      | some x => simp [Builtin.append_, run_underlying Try.underlying39, sizeOf, typeInfo, hi, Builtin.lenOf, Builtin.firstCells, storeCells, loadCells, loadCellsFrom]
    · obtain ⟨x, rfl⟩ := hs.some_ (by omega)
      have hs1 := hs.below hb1
      obtain ⟨v', w', hr, ho, hg, _, _⟩ := run_append_own_at (P := Try.prog) (w := w.alloc (.cells #[] 2)) w.heap.size 39 39 2 i0 _ 1 8 Try.underlying39 hi hz0 hz1 hz2 rfl (by decide) _ 0 _ hown x n c (zs.map (Value.int .i64)) (by simpa using hlen)
        (fun j u hj => by
          have hjm : j < n := by have := (List.getElem?_eq_some_iff.1 hj).1; rw [List.length_map] at this; omega
          rw [hs1.cell x rfl j hjm, ← hj, ints_at zs j (by omega)])
        (fun u hu => by obtain ⟨z, _, rfl⟩ := List.mem_map.1 hu; rfl) (by unfold maxLen; omega) (by omega) (by simp)
      simp only [Nat.zero_add, List.nil_append] at ho
      obtain ⟨a', c', rfl⟩ := own_form ho
      exact ⟨a', c', w', hr, ho, hb1.grown hg (by simp) (fun k e => (hown.lt k e).1)⟩
  have hB : w.heap.size ≤ W2.heap.size := b1.size
  have o2 : (W2.alloc (.cells #[.int .i64 z] 2)).ownsRow w.heap.size 2 1 (.slice ca n cc) n (zs.map (Value.int .i64)) := o1.alloc _
  obtain ⟨v', W3, hr, ho, hg, _, _⟩ := run_append_own_at (P := Try.prog) (w := W2.alloc (.cells #[.int .i64 z] 2)) w.heap.size 39 39 2 i0 _ 1 8 Try.underlying39 hi hz0 hz1 hz2 rfl (by decide) _ n _ o2 ⟨W2.heap.size, 0, none⟩ 1 1 [.int .i64 z] rfl (one_new W2 _ 2) (one_oneCell _ _) (by unfold maxLen; omega) (by omega) (by simp; omega)
  obtain ⟨ca', cc', rfl⟩ := own_form ho
  refine ⟨ca, cc, W2, ca', cc', W3, e1, hr, b1, ⟨by simp [hlen], by simpa using ho, fun u hu => ?_⟩, (b1.alloc hB _).grown hg (by simp; omega) (fun k e => (o2.lt k e).1)⟩
  rcases List.mem_append.1 hu with hu | hu
  · exact hs.wf_mem u hu
  · simp at hu; subst hu; exact hz

/-- one pointer more in a row of pointers -/
theorem run_appendP (t e : TypeId) (hu : Try.prog.underlying t = some (.slice e)) (hinfo : (Try.prog.info? e).map (fun i => (i.zero, i.size, i.bytes)) = some (some (.pointer none), 1, 8)) {B : Nat} {w : World} {a : Option Addr} {n c : Nat} {X : Nat → Nat} (h : w.ownsRow B e 1 (.slice a n c) n (ptrs X n)) (hn : n ≤ 10) (hB : B ≤ w.heap.size) (x : Nat) :
    ∃ a' c' W2, (Builtin.append_ #[t, t] t #[.slice a n c, .slice (some ⟨w.heap.size, 0, none⟩) 1 1]).run Try.prog (w.alloc (.cells #[.pointer (some ⟨x, 0, none⟩)] e)) = .ok (.slice a' (n + 1) c') W2 ∧ W2.ownsRow B e 1 (.slice a' (n + 1) c') (n + 1) (ptrs (upd X n x) (n + 1)) ∧ Off B (fun t => t == e) w W2 := by
  obtain ⟨i0, hi, hz0, hz1, hz2⟩ := info_parts hinfo
  have hown : (w.alloc (.cells #[.pointer (some ⟨x, 0, none⟩)] e)).ownsRow B e 1 (.slice a n c) n (ptrs X n) := h.alloc _
  obtain ⟨v', W3, hr, ho, hg, _, _⟩ := run_append_own_at (P := Try.prog) (w := w.alloc (.cells #[.pointer (some ⟨x, 0, none⟩)] e)) B t t e i0 _ 1 8 hu hi hz0 hz1 hz2 rfl (by decide) _ n _ hown ⟨w.heap.size, 0, none⟩ 1 1 [.pointer (some ⟨x, 0, none⟩)] rfl (one_new w _ e) (one_ptr x) (by unfold maxLen; omega) (by omega) (by simp; omega)
  obtain ⟨a', c', rfl⟩ := own_form ho
  exact ⟨a', c', W3, hr, by rw [ptrs_snoc]; exact ho, off_append h hg⟩

/-- KvForks between two acts -/
structure FkS (B : Nat) (w wr : World) (b g wd K : Nat) (s : Pl) (Q : Nat → Sq) (X : Nat → Nat) (E : Nat → List Int) (Y : Nat → SL) (v9 v10 : Value) : Prop where
  seqs : SeqsIn B wr b g tR wd s K Q X
  many : Many 64 tR wd s K Q
  rows : RowsAt wd s K Q (fun j k => lawRow wd ((E j).getD k 0))
  own9 : wr.ownsRow B 31 1 v9 K (ptrs X K)
  own10 : wr.ownsRow B 39 1 v10 K (sls Y K)
  row : ∀ j, j < K → RowJ B wr (Y j).a (Y j).n (Y j).c (E j)
  len : ∀ j, j < K → (Q j).n = (E j).length
  seed : ∀ j, j < K → ∀ z ∈ E j, 0 ≤ z ∧ z ≤ 1000
  pos : 1 ≤ K
  below : Below B w wr
  lt : B ≤ w.heap.size

variable {B : Nat} {w wr : World} {b g wd K : Nat} {s : Pl} {Q : Nat → Sq} {X : Nat → Nat} {E : Nat → List Int} {Y : Nat → SL} {v9 v10 : Value}

theorem FkS.off (h : FkS B w wr b g wd K s Q X E Y v9 v10) {T : TypeId → Bool} {w' : World} (o : Off B T wr w') (t1 : T 67 = false) (t2 : T 88 = false) (t3 : T 72 = false) (t4 : T 3 = false) (t5 : T 31 = false) (t6 : T 39 = false) (t7 : T 2 = false) : FkS B w w' b g wd K s Q X E Y v9 v10 :=
  ⟨h.seqs.off o t1 t2 t3 t4, h.many, h.rows, own_off h.own9 o t5, own_off h.own10 o t6, fun j hj => (h.row j hj).off o t7, h.len, h.seed, h.pos, h.below.trans (o.below h.seqs.lt), h.lt⟩
theorem FkS.next (h : FkS B w wr b g wd K s Q X E Y v9 v10) {w' : World} (o : Below wr.heap.size wr w') : FkS B w w' b g wd K s Q X E Y v9 v10 := h.off (T := fun _ => false) (Off.of_below o) rfl rfl rfl rfl rfl rfl rfl
theorem FkS.drewN (h : FkS B w wr b g wd K s Q X E Y v9 v10) (m : Nat) : FkS B w (wr.drewN m) b g wd K s Q X E Y v9 v10 := h.next ⟨rfl, rfl, rfl, Nat.le_refl _, fun _ _ => rfl⟩
theorem FkS.few (h : FkS B w wr b g wd K s Q X E Y v9 v10) : K ≤ 6 := h.many.few
/-- an act of one sequence that leaves the rows that were told -/
theorem FkS.act (h : FkS B w wr b g wd K s Q X E Y v9 v10) {i : Nat} (hi : i < K) {w' : World} {s' : Pl} {q' : Sq} (hs : SeqsIn B w' b g tR wd s' K (upd Q i q') X) (ho : Off B TS wr w') (hM : Many 64 tR wd s' K (upd Q i q')) (hR : RowsAt wd s' K (upd Q i q') (fun j k => lawRow wd ((E j).getD k 0))) (hn : q'.n = (Q i).n) : FkS B w w' b g wd K s' (upd Q i q') X E Y v9 v10 :=
  ⟨hs, hM, hR, own_off h.own9 ho rfl, own_off h.own10 ho rfl, fun j hj => (h.row j hj).off ho rfl, fun j hj => by
    by_cases e : j = i
    · subst e; rw [upd_same, hn]; exact h.len j hj
    · rw [upd_other _ _ _ _ e]; exact h.len j hj, h.seed, h.pos, h.below.trans (ho.below h.seqs.lt), h.lt⟩
theorem FkS.keep (h : FkS B w wr b g wd K s Q X E Y v9 v10) {i : Nat} (hi : i < K) (k : Int) {w' : World} (hs : SeqsIn B w' b g tR wd (keepS wd s (Q i) k) K (upd Q i (keepQ wd (Q i) k)) X) (ho : Off B TS wr w') : FkS B w w' b g wd K (keepS wd s (Q i) k) (upd Q i (keepQ wd (Q i) k)) X E Y v9 v10 :=
  h.act hi hs ho (h.many.keep hi k).1 ((h.many.keep hi k).2 _ h.rows) rfl
theorem FkS.end_ (h : FkS B w wr b g wd K s Q X E Y v9 v10) {i : Nat} (hi : i < K) {w' : World} (hs : SeqsIn B w' b g tR wd (endS s (Q i)) K (upd Q i (endQ (Q i))) X) (ho : Off B TS wr w') : FkS B w w' b g wd K (endS s (Q i)) (upd Q i (endQ (Q i))) X E Y v9 v10 :=
  h.act hi hs ho (h.many.end_ hi).1 ((h.many.end_ hi).2 _ h.rows) rfl
theorem FkS.app_no (h : FkS B w wr b g wd K s Q X E Y v9 v10) {i : Nat} (hi : i < K) (zs : List Int) (h0 : appE wd tR s (Q i) zs ≠ 0) {w' : World} (hs : SeqsIn B w' b g tR wd (appS wd tR s (Q i) zs) K (upd Q i (appQ wd tR s (Q i) zs)) X) (ho : Off B TS wr w') : FkS B w w' b g wd K s Q X E Y v9 v10 := by
  obtain ⟨e1, e2⟩ := h.many.app_no (i := i) zs h0
  rw [e1, e2] at hs
  exact ⟨hs, h.many, h.rows, own_off h.own9 ho rfl, own_off h.own10 ho rfl, fun j hj => (h.row j hj).off ho rfl, h.len, h.seed, h.pos, h.below.trans (ho.below h.seqs.lt), h.lt⟩

/-- a row is appended: its seed is put behind the others -/
theorem FkS.app (h : FkS B w wr b g wd K s Q X E Y v9 v10) {i : Nat} (hi : i < K) (z : Nat) (hz : z ≤ 1000) (hn : (E i).length < 1000) (h0 : appE wd tR s (Q i) (lawRow wd z) = 0) {w' : World} (hs : SeqsIn B w' b g tR wd (appS wd tR s (Q i) (lawRow wd z)) K (upd Q i (appQ wd tR s (Q i) (lawRow wd z))) X) (ho : Off B TS wr w') :
    ∃ x10 ca cc W2 ca' cc' W3, v10.ownBlock = some x10 ∧ w'.cell? ⟨x10, i, none⟩ = some (.slice (Y i).a (Y i).n (Y i).c) ∧ (Builtin.append_ #[39, 39] 39 #[.slice (some ⟨w'.heap.size, 0, none⟩) 0 0, .slice (Y i).a (Y i).n (Y i).c]).run Try.prog (w'.alloc (.cells #[] 2)) = .ok (.slice ca (Y i).n cc) W2 ∧
      (Builtin.append_ #[39, 39] 39 #[.slice ca (Y i).n cc, .slice (some ⟨W2.heap.size, 0, none⟩) 1 1]).run Try.prog (W2.alloc (.cells #[.int .i64 (z : Int)] 2)) = .ok (.slice ca' ((Y i).n + 1) cc') W3 ∧ (w'.alloc (.cells #[] 2)).cell? ⟨x10, i, none⟩ = some (.slice (Y i).a (Y i).n (Y i).c) ∧ W3.cell? ⟨x10, i, none⟩ = some (.slice (Y i).a (Y i).n (Y i).c) ∧ W3.frozen? ⟨x10, i, none⟩ = false ∧
      FkS B w (W3.setCell ⟨x10, i, none⟩ (.slice ca' ((Y i).n + 1) cc')) b g wd K (appS wd tR s (Q i) (lawRow wd z)) (upd Q i (appQ wd tR s (Q i) (lawRow wd z))) X (upd E i (E i ++ [(z : Int)])) (upd Y i ⟨ca', (Y i).n + 1, cc'⟩) v9 v10 := by
  have hw := (h.many.ok i hi).w1
  have hlen := h.len i hi
  obtain ⟨m1, _, m3⟩ := h.many.app hi (lawRow wd z) (lawRow_wf wd z (by omega) (by omega) hw) (by rw [hlen]; exact hn) h0
  have hR := m3 _ h.rows
  obtain ⟨q1, q2, q3⟩ := appQ_n h0
  have hrow := (h.row i hi).off ho rfl
  obtain ⟨ca, cc, W2, ca', cc', W3, e1, e2, b2, r3, b3⟩ := run_copyJ1 w' (Y i).a (Y i).n (Y i).c (E i) hrow.reads (by rw [← hrow.len]; omega) (z : Int) (wf_i64 (by omega) (by omega))
  have own10 := own_off h.own10 ho rfl
  obtain ⟨a10, c10, ev⟩ := own_form own10
  subst ev
  rcases own10.2 with ⟨h1, h2⟩ | ⟨x10, cap, cur, h1, h2, h3, h4⟩
  · omega
  simp only [Value.slice.injEq] at h1
  obtain ⟨rfl, _, rfl⟩ := h1
  have own3 := own_off own10 (Off.of_below (T := fun _ => false) (B := 0) b3) rfl
  have c0 : w'.cell? ⟨x10, i, none⟩ = some (.slice (Y i).a (Y i).n (Y i).c) := by rw [own10.cellAt i (by omega)]; exact sls_at _ _ _ hi
  have cA : (w'.alloc (.cells #[] 2)).cell? ⟨x10, i, none⟩ = some (.slice (Y i).a (Y i).n (Y i).c) := by
    rw [(own10.alloc (.cells #[] 2)).cellAt i (by omega)]; exact sls_at _ _ _ hi
  have c3 : W3.cell? ⟨x10, i, none⟩ = some (.slice (Y i).a (Y i).n (Y i).c) := by rw [own3.cellAt i (by omega)]; exact sls_at _ _ _ hi
  refine ⟨x10, ca, cc, W2, ca', cc', W3, rfl, c0, e1, e2, cA, c3, own3.frozenAt i, ?_⟩
  obtain ⟨st, _⟩ := own3.stored i (.slice ca' ((Y i).n + 1) cc')
  have hrow39 : Row 39 W3 x10 cur.size := by
    obtain ⟨_, q⟩ := own3
    rcases q with ⟨q1, _⟩ | ⟨g', cap', cur', q1, q2, q3, q4, q5, q6, q7⟩
    · cases q1
    · simp only [Value.slice.injEq, Option.some.injEq, Addr.mk.injEq, and_true, true_and] at q1
      obtain ⟨rfl, rfl⟩ := q1
      exact ⟨cur', q3, by rw [q6, h4.2.2.1]⟩
  have of4 : Off B (fun t => t == 39) W3 (W3.setCell ⟨x10, i, none⟩ (.slice ca' ((Y i).n + 1) cc')) := Off.set hrow39 h2 rfl _ _
  have ofS : Off B (fun t => t == 39) w' (W3.setCell ⟨x10, i, none⟩ (.slice ca' ((Y i).n + 1) cc')) := (Off.of_below b3).trans of4
  have hB' : B ≤ w'.heap.size := hs.lt
  refine ⟨hs.off ofS rfl rfl rfl rfl, m1, fun j hj k hk1 hk2 c hc => ?_, own_off (own_off h.own9 ho rfl) ofS rfl, by rw [← sls_set _ _ _ _ hi]; exact st, fun j hj => ?_, fun j hj => ?_, fun j hj => ?_, h.pos, (h.below.trans (ho.below h.seqs.lt)).trans (ofS.below hB'), h.lt⟩
  · rw [hR j hj k hk1 hk2 c hc]
    show (if j = i ∧ k = (Q i).n then lawRow wd z else lawRow wd ((E j).getD k 0)).getD c 0 = (lawRow wd ((upd E i (E i ++ [(z : Int)]) j).getD k 0)).getD c 0
    by_cases e : j = i
    · subst e
      rw [upd_same]
      by_cases f : k = (Q j).n
      · rw [if_pos ⟨rfl, f⟩, f, hlen, getD_end]
      · rw [if_neg (fun y => f y.2)]
        rw [upd_same, q1] at hk2
        rw [getD_append (by omega)]
    · rw [if_neg (fun y => e y.1), upd_other _ _ _ _ e]
  · by_cases e : j = i
    · subst e
      rw [upd_same, upd_same]
      exact (r3.mono hB').off of4 rfl
    · rw [upd_other _ _ _ _ e, upd_other _ _ _ _ e]
      exact ((h.row j hj).off ho rfl).off ofS rfl
  · by_cases e : j = i
    · subst e
      rw [upd_same, upd_same, q1, hlen, List.length_append]
      rfl
    · rw [upd_other _ _ _ _ e, upd_other _ _ _ _ e]
      exact h.len j hj
  · by_cases e : j = i
    · subst e
      rw [upd_same]
      intro u hu
      rcases List.mem_append.1 hu with hu | hu
      · exact h.seed j hj u hu
      · simp at hu; omega
    · rw [upd_other _ _ _ _ e]
      exact h.seed j hj

/-- a sequence is forked: one pointer and one row of seeds more -/
theorem FkS.fork (h : FkS B w wr b g wd K s Q X E Y v9 v10) {i : Nat} (hi : i < K) (hK : K < 6) {w' : World} {x' : Nat} (hs : SeqsIn B w' b g tR wd (forkS s (Q i)) (K + 1) (upd Q K (Q i)) (upd X K x')) (ho : Off B TS wr w') :
    ∃ a9 c9 a9' c9' W5 a10 c10 a10' c10' W6 x10, v9 = .slice a9 K c9 ∧ v10 = .slice a10 K c10 ∧ (Builtin.append_ #[37, 37] 37 #[.slice a9 K c9, .slice (some ⟨w'.heap.size, 0, none⟩) 1 1]).run Try.prog (w'.alloc (.cells #[.pointer (some ⟨x', 0, none⟩)] 31)) = .ok (.slice a9' (K + 1) c9') W5 ∧
      a10 = some x10 ∧ W5.cell? (x10.add i) = some (.slice (Y i).a (Y i).n (Y i).c) ∧ (Builtin.append_ #[54, 54] 54 #[.slice a10 K c10, .slice (some ⟨W5.heap.size, 0, none⟩) 1 1]).run Try.prog (W5.alloc (.cells #[.slice (Y i).a (Y i).n (Y i).c] 39)) = .ok (.slice a10' (K + 1) c10') W6 ∧
      FkS B w W6 b g wd (K + 1) (forkS s (Q i)) (upd Q K (Q i)) (upd X K x') (upd E K (E i)) (upd Y K (Y i)) (.slice a9' (K + 1) c9') (.slice a10' (K + 1) c10') := by
  obtain ⟨m1, _, m3⟩ := h.many.fork hi hK
  have hB' : B ≤ w'.heap.size := hs.lt
  have own9 := own_off h.own9 ho rfl
  have own10 := own_off h.own10 ho rfl
  obtain ⟨a9, c9, rfl⟩ := own_form own9
  obtain ⟨a10, c10, rfl⟩ := own_form own10
  obtain ⟨a9', c9', W5, e9, o9, f9⟩ := run_appendP 37 31 Try.underlying37 info31 own9 (by omega) hB' x'
  have own10' := own_off own10 f9 rfl
  obtain ⟨x10, rfl, c10c⟩ := own_cell own10' (sls_at Y K i hi)
  obtain ⟨i0, hi0, hz0, hz1, hz2⟩ := info_parts info39
  have hB5 : B ≤ W5.heap.size := Nat.le_trans hB' f9.size
  have ownA : (W5.alloc (.cells #[.slice (Y i).a (Y i).n (Y i).c] 39)).ownsRow B 39 1 (.slice (some x10) K c10) K (sls Y K) := own10'.alloc _
  obtain ⟨v', W6, hr, ho6, hg, _, _⟩ := run_append_own_at (P := Try.prog) (w := W5.alloc (.cells #[.slice (Y i).a (Y i).n (Y i).c] 39)) B 54 54 39 i0 _ 1 24 Try.underlying54 hi0 hz0 hz1 hz2 rfl (by decide) _ K _ ownA ⟨W5.heap.size, 0, none⟩ 1 1 [.slice (Y i).a (Y i).n (Y i).c] rfl (one_new W5 _ 39) (one_slice _ _ _) (by unfold maxLen; omega) (by omega) (by simp; omega)
  obtain ⟨a10', c10', rfl⟩ := own_form ho6
  have f10 := off_append own10' hg
  have ofa : Off B (fun t => t == 31 || t == 39) w' W6 := (f9.mono (fun t ht => (Bool.or_eq_false_iff.1 ht).1)).trans (f10.mono (fun t ht => (Bool.or_eq_false_iff.1 ht).2))
  refine ⟨a9, c9, a9', c9', W5, some x10, c10, a10', c10', W6, x10, rfl, rfl, e9, rfl, c10c, hr, ⟨hs.off ofa rfl rfl rfl rfl, m1, ?_, own_off o9 f10 rfl, by rw [sls_snoc]; exact ho6, fun j hj => ?_, fun j hj => ?_, fun j hj => ?_, by omega, (h.below.trans (ho.below h.seqs.lt)).trans (ofa.below hB'), h.lt⟩⟩
  · have := m3 _ h.rows
    have e : upd (fun (j k : Nat) => lawRow wd ((E j).getD k 0)) K (fun k => lawRow wd ((E i).getD k 0)) = fun (j k : Nat) => lawRow wd ((upd E K (E i) j).getD k 0) := by
      funext j k
      simp only [upd]
      split <;> rfl
    rw [e] at this
    exact this
  · by_cases e : j = K
    · subst e
      rw [upd_same, upd_same]
      exact ((h.row i hi).off ho rfl).off ofa rfl
    · rw [upd_other _ _ _ _ e, upd_other _ _ _ _ e]
      exact ((h.row j (by omega)).off ho rfl).off ofa rfl
  · by_cases e : j = K
    · subst e
      rw [upd_same, upd_same]
      exact h.len i hi
    · rw [upd_other _ _ _ _ e, upd_other _ _ _ _ e]
      exact h.len j (by omega)
  · by_cases e : j = K
    · subst e
      rw [upd_same]
      exact h.seed i hi
    · rw [upd_other _ _ _ _ e]
      exact h.seed j (by omega)
/-- what one row tells -/
theorem FkS.tell (h : FkS B w wr b g wd K s Q X E Y v9 v10) {j : Nat} (hj : j < K) {k : Nat} (h1 : (Q j).st ≤ k) (h2 : k < (E j).length) : rowE (Q j) k = 0 ∧ rowV wd s (Q j) k = lawRow wd ((E j).getD k 0) :=
  h.rows.row h.many hj h1 (by rw [h.len j hj]; exact h2) (lawRow_len _ _)
end

/- KvForks at its start and at its end; rows of pointers, read. -/
section
open Go.ChangeShapes Go.WideShapes Go.ChangeAt Go.RowKit
set_option linter.unusedVariables false
set_option linter.unusedSimpArgs false

/-- an append whose run is known -/
theorem wpList_append_run {P : Program} {w : World} {ops : Array Oper} {rest : List Oper} {o : Oper} {a : Act} {Q : Exit → Act → World → Prop} (hgd : o.guard = none) (s x : Operand) (t : TypeId) (ho : o.op = .call { callee := .builtin .append, args := #[s, x], argTypes := #[t, t] })
    (ty : TypeId) (hty : o.type = ty) (V1 V2 : Value) (hs : a.eval s = V1) (hx : a.eval x = V2) (v' : Value) (w' : World) (hrun : (Builtin.append_ #[t, t] ty #[V1, V2]).run P w = .ok v' w') (h : wpList P ops Q rest (a.put o.dst v') w') : wpList P ops Q (o :: rest) a w := by
  refine wpList_plain hgd fun K hK => ?_
  subst hty
  unfold Oper.wp
  simp [execOp, ho, resolve, invoke, builtin, hs, hx, hrun, Result.andThen]
  exact hK _ _ h
theorem own_cell_at {w : World} {B : Nat} {X : Nat → Nat} {x : Addr} {K c i : Nat} (h : w.ownsRow B 31 1 (.slice (some x) K c) K (ptrs X K)) (hi : i < K) : w.cell? (x.add i) = some (.pointer (some ⟨X i, 0, none⟩)) := by
  obtain ⟨y, ey, hc⟩ := own_cell h (ptrs_at X K i hi)
  obtain rfl := Option.some.inj ey
  exact hc
theorem own_zero {w : World} {B : Nat} {e : TypeId} {y : Addr} {K c g : Nat} {cs : List Value} (h : w.ownsRow B e 1 (.slice (some y) K c) K cs) (hb : (Value.slice (some y) K c).ownBlock = some g) : y = ⟨g, 0, none⟩ := by
  rcases h.2 with ⟨h1, _⟩ | ⟨g', cap, cur, h1, _⟩
  · cases h1
  · simp only [Value.slice.injEq, Option.some.injEq] at h1
    obtain ⟨rfl, _⟩ := h1
    have := Option.some.inj hb
    simp only at this
    rw [this]
theorem wrapU {K : Nat} (h : K ≤ 1000) : IntKind.u64.wrap (K : Int) = (K : Int) := by
  rw [IntKind.wrap_u64]
  omega
theorem fks_new {w W : World} {b g x wd : Nat} (hp : SeqsIn w.heap.size W b g tR wd (newPl 64) 1 (fun _ => ⟨[], 0, 0⟩) (fun _ => x)) (hb : Below w.heap.size w W) (w0 : 1 ≤ wd) (w1 : wd ≤ 32) :
    FkS w.heap.size w ((W.alloc (.cells #[.pointer (some ⟨x, 0, none⟩)] 31)).alloc (.cells #[.slice none 0 0] 39)) b g wd 1 (newPl 64) (fun _ => ⟨[], 0, 0⟩) (fun _ => x) (fun _ => []) (fun _ => ⟨none, 0, 0⟩) (.slice (some ⟨W.heap.size, 0, none⟩) 1 1) (.slice (some ⟨W.heap.size + 1, 0, none⟩) 1 1) := by
  have hB : w.heap.size ≤ W.heap.size := hb.size
  have b1 := below_new (Below.refl W.heap.size W) (.cells #[.pointer (some ⟨x, 0, none⟩)] 31)
  have b2 := below_new b1 (.cells #[.slice none 0 0] 39)
  have o9 : (W.alloc (.cells #[.pointer (some ⟨x, 0, none⟩)] 31)).ownsRow w.heap.size 31 1 (.slice (some ⟨W.heap.size, 0, none⟩) 1 1) 1 [.pointer (some ⟨x, 0, none⟩)] := World.ownsRow_lit W #[_] 1 hB (by decide) rfl
  have o10 := World.ownsRow_lit (base := w.heap.size) (e := 39) (size := 1) (W.alloc (.cells #[.pointer (some ⟨x, 0, none⟩)] 31)) #[.slice none 0 0] 1 (by simp; omega) (by decide) rfl
  rw [World.size_alloc] at o10
  refine ⟨hp.below b2, many_new 64 tR wd (by decide) (by decide) tR_ne w0 w1, fun i hi k h1 h2 => ?_, o9.alloc _, o10, fun j hj => RowJ.nil _ _, fun j hj => rfl, fun j hj z hz => by simp at hz, Nat.le_refl _, below_then hb b2, Nat.le_refl _⟩
  have : k < 0 := h2
  omega
/-- when all have let go -/
structure FkE (B : Nat) (w wr : World) (b g wd K : Nat) (s : Pl) (Q : Nat → Sq) (X : Nat → Nat) (v9 : Value) (i : Nat) : Prop where
  seqs : SeqsIn B wr b g tR wd s K Q X
  many : Many 64 tR wd s K Q
  own9 : wr.ownsRow B 31 1 v9 K (ptrs X K)
  below : Below B w wr
  gone : ∀ j, j < i → j < K → (Q j).P = []
theorem FkE.step {B : Nat} {w wr w' : World} {b g wd K : Nat} {s : Pl} {Q : Nat → Sq} {X : Nat → Nat} {v9 : Value} {i : Nat} (h : FkE B w wr b g wd K s Q X v9 i) (hi : i < K) (hs : SeqsIn B w' b g tR wd (endS s (Q i)) K (upd Q i (endQ (Q i))) X) (ho : Off B TS wr w') : FkE B w w' b g wd K (endS s (Q i)) (upd Q i (endQ (Q i))) X v9 (i + 1) :=
  ⟨hs, (h.many.end_ hi).1, own_off h.own9 ho rfl, h.below.trans (ho.below h.seqs.lt), fun j hj hK => by
    by_cases e : j = i
    · subst e; rw [upd_same]; rfl
    · rw [upd_other _ _ _ _ e]; exact h.gone j (by omega) hK⟩
theorem FkS.fin {B : Nat} {w wr : World} {b g wd K : Nat} {s : Pl} {Q : Nat → Sq} {X : Nat → Nat} {E : Nat → List Int} {Y : Nat → SL} {v9 v10 : Value} (h : FkS B w wr b g wd K s Q X E Y v9 v10) : FkE B w wr b g wd K s Q X v9 0 := ⟨h.seqs, h.many, h.own9, h.below, fun j hj => by omega⟩
end

end Go.Proofs.Ytgjjeggopeppfaa
