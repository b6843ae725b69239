/- Several sequences of the program in memory: the contracts of all acts, over all of them; the rows of a seed. -/
import Derived.Test.YtgjjeggopeppfaaRows
import Derived.Test.YtgjjeggopeppfaaPages
import Derived.Test.YtgjjeggopeppfaaBasis
import Derived.Test.YtgjjeggopeppfaaLeast
import Derived.Test.YtgjjeggopeppfaaLays
import Derived.Test.YtgjjeggopeppfaaTurns
import Derived.Test.YtgjjeggopeppfaaGoods
import Derived.Test.YtgjjeggopeppfaaNews
import Derived.Test.YtgjjeggopeppfaaCount
import Derived.Test.YtgjjeggopeppfaaLies
import Derived.Test.YtgjjeggopeppfaaSeqP
import Derived.Test.YtgjjeggopeppfaaSeqRN
import Derived.Test.YtgjjeggopeppfaaReadsB
import Derived.Test.YtgjjeggopeppfaaRooms
import Derived.Test.YtgjjeggopeppfaaPagesOf
import Derived.Test.YtgjjeggopeppfaaForks
import Derived.Test.YtgjjeggopeppfaaKeep
import Derived.Test.YtgjjeggopeppfaaRows13
import Derived.Test.YtgjjeggopeppfaaManys
import Derived.WalkKit
import Derived.ProofKit
import Derived.OpenShut
import Derived.Below
import Derived.WalkLawsBesides
import Derived.Deep.QuietTactic
import Derived.BigQuiet
import Derived.OwnWalk
namespace Go.Proofs.Ytgjjeggopeppfaa
open Go.ChangeShapes Go.WideShapes Go.ChangeAt Go.RowKit
set_option linter.unusedVariables false
set_option linter.unusedSimpArgs false

/-- several sequences of the program as they lie in memory, each in blocks of its own -/
structure SeqsAt (B : Nat) (w : World) (b g : Nat) (t : ByteArray) (wd : Nat) (s : Pl) (K : Nat) (Q : Nat → Sq) (X : Nat → Nat) (A : Nat → Option Addr) (C : Nat → Nat) : Prop where
  pool : PoolAt B w b g s
  seq : ∀ i, i < K → SeqAt B w (X i) b t wd (Q i) (A i) (C i)
  apart : ∀ i, i < K → ∀ j, j < K → i ≠ j → ∀ k, Own (X i) (A i) k → ¬ Own (X j) (A j) k
def SeqsIn (B : Nat) (w : World) (b g : Nat) (t : ByteArray) (wd : Nat) (s : Pl) (K : Nat) (Q : Nat → Sq) (X : Nat → Nat) : Prop := ∃ A C, SeqsAt B w b g t wd s K Q X A C
/-- what acts of the program's sequences write -/
def TS (t : TypeId) : Bool := t == 67 || t == 88 || t == 72 || t == 3

variable {B : Nat} {w : World} {b g : Nat} {t : ByteArray} {wd : Nat} {s : Pl} {K : Nat} {Q : Nat → Sq} {X : Nat → Nat}

theorem SeqsIn.off (h : SeqsIn B w b g t wd s K Q X) {B' : Nat} {T : TypeId → Bool} {w' : World} (o : Off B' T w w') (h1 : T 67 = false) (h2 : T 88 = false) (h3 : T 72 = false) (h4 : T 3 = false) : SeqsIn B w' b g t wd s K Q X := by
  obtain ⟨A, C, h⟩ := h
  exact ⟨A, C, h.pool.off o h1 h2, fun i hi => (h.seq i hi).off o h3 h4, h.apart⟩
theorem SeqsIn.below (h : SeqsIn B w b g t wd s K Q X) {w' : World} (o : Below w.heap.size w w') : SeqsIn B w' b g t wd s K Q X := h.off (T := fun _ => false) (B' := 0) (Off.of_below o) rfl rfl rfl rfl
theorem SeqsIn.drewN (h : SeqsIn B w b g t wd s K Q X) (m : Nat) : SeqsIn B (w.drewN m) b g t wd s K Q X := h.off (T := fun _ => false) (B' := 0) ((Off.refl _ _ w).drewN m) rfl rfl rfl rfl
theorem SeqsIn.lt (h : SeqsIn B w b g t wd s K Q X) : B ≤ w.heap.size := by obtain ⟨A, C, h⟩ := h; exact h.pool.lt

theorem SeqsAt.did {A : Nat → Option Addr} {C : Nat → Nat} (h : SeqsAt B w b g t wd s K Q X A C) {i : Nat} (hi : i < K) {s' : Pl} {q' : Sq} {w' : World} (d : Did B w (X i) b g t wd (A i) s' q' w') : SeqsIn B w' b g t wd s' K (upd Q i q') X ∧ Off B TS w w' := by
  obtain ⟨a', c', hp, hs, hb, ho⟩ := d
  have hof := ho.off (h.seq i hi)
  refine ⟨⟨upd A i a', upd C i c', hp, fun j hj => ?_, fun j hj k hk hne l hl hl' => ?_⟩, hof.mono (fun t ht => ?_)⟩
  · by_cases e : j = i
    · subst e
      rw [upd_same, upd_same, upd_same]
      exact hs
    · rw [upd_other _ _ _ _ e, upd_other _ _ _ _ e, upd_other _ _ _ _ e]
      exact (h.seq j hj).offS ho rfl rfl (h.apart j hj i hi e)
  · have key : ∀ l, Own (X i) a' l → Own (X i) (A i) l ∨ w.heap.size ≤ l := fun l hl => by
      rcases hl with rfl | hl
      · exact .inl (.inl rfl)
      · exact (hb l hl).imp (fun z => .inr z) id
    by_cases e : j = i
    · subst e
      rw [upd_same] at hl
      rw [upd_other _ _ _ _ (Ne.symm hne)] at hl'
      rcases key l hl with z | z
      · exact h.apart j hj k hk hne l z hl'
      · have := ((h.seq k hk).type hl').2.1
        omega
    · rw [upd_other _ _ _ _ e] at hl
      by_cases f : k = i
      · subst f
        rw [upd_same] at hl'
        rcases key l hl' with z | z
        · exact h.apart j hj k hk hne l hl z
        · have := ((h.seq j hj).type hl).2.1
          omega
      · rw [upd_other _ _ _ _ f] at hl'
        exact h.apart j hj k hk hne l hl hl'
  · simp only [TS, Bool.or_eq_false_iff] at ht
    simp only [TP, Bool.or_eq_false_iff]
    exact ⟨⟨ht.1.1, ht.1.2⟩, ht.2⟩

theorem SeqsIn.append (h : SeqsIn B w b g t wd s K Q X) {N : Nat} (hM : Many N t wd s K Q) {i : Nat} (hi : i < K) (hn : (Q i).n < 1000) {B' : Nat} {ra : Option Addr} {rl rc : Nat} {zs : List Int} (hr : RowJ B' w ra rl rc zs) :
    Calls Try.prog 12 #[.pointer (some ⟨X i, 0, none⟩), .slice ra rl rc] w fun e w' => e = .returned (.int .i64 (appE wd t s (Q i) zs)) ∧ SeqsIn B w' b g t wd (appS wd t s (Q i) zs) K (upd Q i (appQ wd t s (Q i) zs)) X ∧ Off B TS w w' := by
  obtain ⟨A, C, h⟩ := h
  refine (append_call (h.seq i hi) h.pool hM.good ⟨by decide, by decide⟩ (hM.ok i hi) hn ra rl rc zs hr).mono ?_
  rintro e w' ⟨rfl, d⟩
  exact ⟨rfl, h.did hi d⟩
theorem SeqsIn.keep (h : SeqsIn B w b g t wd s K Q X) {N : Nat} (hM : Many N t wd s K Q) {i : Nat} (hi : i < K) (k : Int) (hk : k ≤ 9223372036854775807) :
    Calls Try.prog 16 #[.pointer (some ⟨X i, 0, none⟩), .int .i64 k] w fun e w' => e = .returned (.tuple #[]) ∧ SeqsIn B w' b g t wd (keepS wd s (Q i) k) K (upd Q i (keepQ wd (Q i) k)) X ∧ Off B TS w w' := by
  obtain ⟨A, C, h⟩ := h
  refine (keep_call (h.seq i hi) h.pool hM.good (by decide) (hM.ok i hi) k hk).mono ?_
  rintro e w' ⟨rfl, d⟩
  exact ⟨rfl, h.did hi d⟩
theorem Many.len {N : Nat} (hM : Many N t wd s K Q) {i : Nat} (hi : i < K) : (Q i).P.length ≤ 1000 := Nat.le_trans (hM.ok i hi).len (hM.ok i hi).few
theorem SeqsIn.end_ (h : SeqsIn B w b g t wd s K Q X) {N : Nat} (hM : Many N t wd s K Q) {i : Nat} (hi : i < K) :
    Calls Try.prog 18 #[.pointer (some ⟨X i, 0, none⟩)] w fun e w' => e = .returned (.tuple #[]) ∧ SeqsIn B w' b g t wd (endS s (Q i)) K (upd Q i (endQ (Q i))) X ∧ Off B TS w w' := by
  obtain ⟨A, C, h⟩ := h
  refine (end_call (h.seq i hi) h.pool hM.good (by decide) (hM.len hi)).mono ?_
  rintro e w' ⟨rfl, d⟩
  exact ⟨rfl, h.did hi d⟩
theorem SeqsIn.fork (h : SeqsIn B w b g t wd s K Q X) {N : Nat} (hM : Many N t wd s K Q) {i : Nat} (hi : i < K) :
    Calls Try.prog 14 #[.pointer (some ⟨X i, 0, none⟩)] w fun e w' => ∃ x', e = .returned (.pointer (some ⟨x', 0, none⟩)) ∧ SeqsIn B w' b g t wd (forkS s (Q i)) (K + 1) (upd Q K (Q i)) (upd X K x') ∧ Off B TS w w' := by
  obtain ⟨A, C, h⟩ := h
  refine (fork_call (h.seq i hi) h.pool hM.good (by decide) (hM.len hi)).mono ?_
  rintro e w' ⟨x', rfl, a', c', hx, hb, hp, hs, ho⟩
  have key : ∀ l, Own x' a' l → w.heap.size ≤ l := fun l hl => by
    rcases hl with rfl | hl
    · exact hx
    · exact hb l hl
  refine ⟨x', rfl, ⟨upd A K a', upd C K c', hp, fun j hj => ?_, fun j hj k hk hne l hl hl' => ?_⟩, ho.mono (fun t ht => ?_)⟩
  · by_cases e : j = K
    · subst e
      rw [upd_same, upd_same, upd_same, upd_same]
      exact hs
    · rw [upd_other _ _ _ _ e, upd_other _ _ _ _ e, upd_other _ _ _ _ e, upd_other _ _ _ _ e]
      exact (h.seq j (by omega)).off ho rfl rfl
  · by_cases e : j = K
    · subst e
      rw [upd_same, upd_same] at hl
      rw [upd_other _ _ _ _ (Ne.symm hne), upd_other _ _ _ _ (Ne.symm hne)] at hl'
      have := key l hl
      have := ((h.seq k (by omega)).type hl').2.1
      omega
    · rw [upd_other _ _ _ _ e, upd_other _ _ _ _ e] at hl
      by_cases f : k = K
      · subst f
        rw [upd_same, upd_same] at hl'
        have := key l hl'
        have := ((h.seq j (by omega)).type hl).2.1
        omega
      · rw [upd_other _ _ _ _ f, upd_other _ _ _ _ f] at hl'
        exact h.apart j (by omega) k (by omega) hne l hl hl'
  · simp only [TS, Bool.or_eq_false_iff] at ht
    simp only [TP, Bool.or_eq_false_iff]
    exact ht.1.1
theorem SeqsIn.need (h : SeqsIn B w b g t wd s K Q X) {N : Nat} (hM : Many N t wd s K Q) {i : Nat} (hi : i < K) :
    Calls Try.prog 29 #[.pointer (some ⟨X i, 0, none⟩)] w fun e w' => e = .returned (.int .i64 (needV wd s (Q i))) ∧ ∃ m, w' = w.drewN m := by
  obtain ⟨A, C, h⟩ := h
  exact need_call (h.seq i hi) h.pool hM.good (hM.ok i hi)
theorem SeqsIn.row (h : SeqsIn B w b g t wd s K Q X) {N : Nat} (hM : Many N t wd s K Q) {i : Nat} (hi : i < K) (k : Int) :
    Calls Try.prog 25 #[.pointer (some ⟨X i, 0, none⟩), .int .i64 k] w fun e w' => ∃ ra rl rc, e = .returned (.tuple #[.slice ra rl rc, .int .i64 (rowE (Q i) k)]) ∧ RowJ w.heap.size w' ra rl rc (rowV wd s (Q i) k) ∧ Below w.heap.size w w' := by
  obtain ⟨A, C, h⟩ := h
  exact row_call (h.seq i hi) h.pool hM.good (hM.ok i hi) (hM.mem hi) hM.wf k
theorem SeqsIn.len (h : SeqsIn B w b g t wd s K Q X) {i : Nat} (hi : i < K) : Calls Try.prog 23 #[.pointer (some ⟨X i, 0, none⟩)] w fun e w' => e = .returned (.int .i64 (Q i).n) ∧ w' = w := by
  obtain ⟨A, C, h⟩ := h
  exact len_call (h.seq i hi)
theorem SeqsIn.first (h : SeqsIn B w b g t wd s K Q X) {i : Nat} (hi : i < K) : Calls Try.prog 24 #[.pointer (some ⟨X i, 0, none⟩)] w fun e w' => e = .returned (.int .i64 (Q i).st) ∧ w' = w := by
  obtain ⟨A, C, h⟩ := h
  exact first_call (h.seq i hi)
theorem SeqsIn.pages (h : SeqsIn B w b g t wd s K Q X) {N : Nat} (hM : Many N t wd s K Q) {i : Nat} (hi : i < K) :
    Calls Try.prog 30 #[.pointer (some ⟨X i, 0, none⟩)] w fun e w' => ∃ ra rc, e = .returned (.slice ra (Q i).P.length rc) ∧ RowI w.heap.size w' ra (Q i).P.length rc (Q i).P ∧ Below w.heap.size w w' := by
  obtain ⟨A, C, h⟩ := h
  exact pages_call (h.seq i hi) (hM.len hi)
theorem SeqsIn.count (h : SeqsIn B w b g t wd s K Q X) {N : Nat} (hM : Many N t wd s K Q) : Calls Try.prog 28 #[.pointer (some ⟨b, 0, none⟩), .string t] w fun e w' => e = .returned (.int .i64 (cntTo s.pg t N)) ∧ w' = w := by
  obtain ⟨A, C, h⟩ := h
  have := count_call h.pool hM.good.n1 t
  rw [hM.n] at this
  exact this
theorem SeqsIn.sizes (h : SeqsIn B w b g t wd s K Q X) {N : Nat} (hM : Many N t wd s K Q) : Calls Try.prog 27 #[.pointer (some ⟨b, 0, none⟩)] w fun e w' => e = .returned (.tuple #[.int .i64 N, .int .i64 (freeTo s.pg N), .int .i64 0]) ∧ ∃ m, w' = w.drewN m := by
  obtain ⟨A, C, h⟩ := h
  have := sizes_call h.pool hM.good.n1
  rw [hM.n, hM.aside] at this
  exact this
/-- one sequence without rows, just made -/
theorem seqs_new {x : Nat} (hp : PoolAt B w b g s) (hs : SeqAt B w x b t wd ⟨[], 0, 0⟩ none 0) : SeqsIn B w b g t wd s 1 (fun _ => ⟨[], 0, 0⟩) (fun _ => x) :=
  ⟨fun _ => none, fun _ => 0, hp, fun i hi => hs, fun i hi j hj hne => by omega⟩

/-- a row of a width, of a seed -/
def lawRow (wd : Nat) (z : Int) : List Int := (List.range wd).map fun (k : Nat) => z * 31 + (k : Int)
theorem lawRow_len (wd : Nat) (z : Int) : (lawRow wd z).length = wd := by simp [lawRow]
theorem lawRow_wf (wd : Nat) (z : Int) (h0 : 0 ≤ z) (h1 : z ≤ 1000) (hw : wd ≤ 32) : ∀ u ∈ lawRow wd z, (Lit.int .i64 u).wf = true := fun u hu => by
  obtain ⟨k, hk, rfl⟩ := List.mem_map.1 hu
  have := List.mem_range.1 hk
  exact wf_i64 (by omega) (by omega)
theorem lawRow_call (wd : Nat) (z : Int) (h0 : 0 ≤ z) (h1 : z ≤ 1000) (hw : wd ≤ 32) (w : World) :
    Calls Try.prog 11 #[.int .i64 wd, .int .i64 z] w fun e w' => ∃ ra rc, e = .returned (.slice ra wd rc) ∧ RowJ w.heap.size w' ra wd rc (lawRow wd z) ∧ Below w.heap.size w w' := by
  obtain ⟨it, hi, hz0, hz1, hz2⟩ := info_parts info2
  have HW := hidden_ (lawRow_wf wd z h0 h1 hw)
  have HE : Hid (gath (fun k => z * 31 + (k : Int)) .i64 wd = (lawRow wd z).map (Value.int .i64)) := by unfold gath lawRow; rw [List.map_map]; exact (rfl : _ = List.map _ _)
  go_enter Try.func11, Try.ntmps11
  go_wp2
  go_loopw [5, 6] (fun v i wr => ∃ k : Nat, k ≤ wd ∧ i = .int .i64 k ∧ wr.ownsRow w.heap.size 2 1 v k (gath (fun k => z * 31 + (k : Int)) .i64 k) ∧ Below w.heap.size w wr) (fun _ i _ => wd - (intOf i).toNat)
  case atStart => exact ⟨0, Nat.zero_le _, rfl, World.ownsRow_nil _ _ _ _, Below.refl _ _⟩
  case round =>
    obtain ⟨k, hk, rfl, ho, hb⟩ := hrel
    obtain ⟨a, c, rfl⟩ := own_form ho
    by_cases hlt : k < wd
    · have hsz : w.heap.size ≤ wr.heap.size := hb.size
      go_wp2_with (first
        | (at_builtin; refine wpList_append_own _ rfl (.tmp 12) (.tmp 17) 39 rfl w.heap.size 2 it (.int .i64 0) 1 8 Try.underlying39 hi hz0 hz1 hz2 rfl (by decide) _ _ _ rfl (World.ownsRow.alloc (w := wr) ho _) ⟨_, 0, none⟩ 1 1 [.int .i64 (z * 31 + (k : Int))] rfl rfl (one_new _ _ _) (one_oneCell _ _) (by unfold maxLen; omega) (by omega) (by simp; omega) ?_; intro v' w3 ho' hg _))
      obtain ⟨hb3, ho3⟩ := append_step (F := fun k => z * 31 + (k : Int)) hsz rfl hb ho ho' hg
      go_roundw
      case rel => exact ⟨k + 1, by omega, by go_num, ho3, hb3⟩
      case measure => simp [intOf]; omega
    · have e : k = wd := by omega
      subst e
      have HF : Hid (RowJ w.heap.size wr a k c (lawRow k z) ∧ Below w.heap.size w wr) := ⟨⟨lawRow_len _ _, by rw [← HE.out]; exact ho, HW.out⟩, hb⟩
      clear ho hb
      go_wp2
      go_ret
      exact ⟨_, _, rfl, HF.out.1, HF.out.2⟩

end Go.Proofs.Ytgjjeggopeppfaa
