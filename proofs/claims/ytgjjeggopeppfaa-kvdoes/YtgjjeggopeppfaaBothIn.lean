/- The sequences of the program and the document's side by side: the contracts of all acts. -/
import Derived.Test.YtgjjeggopeppfaaRows
import Derived.Test.YtgjjeggopeppfaaPages
import Derived.Test.YtgjjeggopeppfaaBasis
import Derived.Test.YtgjjeggopeppfaaLeast
import Derived.Test.YtgjjeggopeppfaaLays
import Derived.Test.YtgjjeggopeppfaaTurns
import Derived.Test.YtgjjeggopeppfaaGoods
import Derived.Test.YtgjjeggopeppfaaRefA
import Derived.Test.YtgjjeggopeppfaaRefTk
import Derived.Test.YtgjjeggopeppfaaRefLays
import Derived.Test.YtgjjeggopeppfaaRefTurns
import Derived.Test.YtgjjeggopeppfaaLies
import Derived.Test.YtgjjeggopeppfaaSeqP
import Derived.Test.YtgjjeggopeppfaaSeqRN
import Derived.Test.YtgjjeggopeppfaaReadsB
import Derived.Test.YtgjjeggopeppfaaForks
import Derived.Test.YtgjjeggopeppfaaRooms
import Derived.Test.YtgjjeggopeppfaaDocAt
import Derived.Test.YtgjjeggopeppfaaDocRd
import Derived.Test.YtgjjeggopeppfaaDocKeep
import Derived.Test.YtgjjeggopeppfaaRegPg
import Derived.Test.YtgjjeggopeppfaaRegAB
import Derived.Test.YtgjjeggopeppfaaDocAp0
import Derived.Test.YtgjjeggopeppfaaSmalls
import Derived.Test.YtgjjeggopeppfaaKeep
import Derived.Test.YtgjjeggopeppfaaManys
import Derived.Test.YtgjjeggopeppfaaSeqsIn
import Derived.Test.YtgjjeggopeppfaaRows13
import Derived.Test.YtgjjeggopeppfaaSameP
import Derived.Test.YtgjjeggopeppfaaDocApp
import Derived.Test.YtgjjeggopeppfaaDocFork
import Derived.Test.YtgjjeggopeppfaaRegSS
import Derived.WalkKit
import Derived.ProofKit
import Derived.OpenShut
import Derived.Below
import Derived.WalkLawsBesides
import Derived.Deep.QuietTactic
import Derived.BigQuiet
import Derived.Deep.RegionHeld3
import Derived.Deep.RegionWith
namespace Go.Proofs.Ytgjjeggopeppfaa
open Go.ChangeShapes Go.WideShapes Go.ChangeAt Go.RowKit
set_option linter.unusedVariables false
set_option linter.unusedSimpArgs false

/-- several sequences of the document's as they lie in memory -/
structure DocsAt (B : Nat) (w : World) (b g : Nat) (t : ByteArray) (wd : Nat) (s : Pl) (K : Nat) (Q : Nat → Sq) (X : Nat → Nat) (r : Nat → Nat) (A : Nat → Option Addr) (C : Nat → Nat) : Prop where
  pool : RefAt B w b g s r
  seq : ∀ i, i < K → DocAt B w (X i) b t wd (Q i) (A i) (C i)
  inj : ∀ i, i < K → ∀ j, j < K → i ≠ j → X i ≠ X j
/-- the program's and the document's, side by side -/
structure BothAt (B : Nat) (w : World) (b g b2 g2 : Nat) (t : ByteArray) (wd : Nat) (s s2 : Pl) (K K2 : Nat) (Q Q2 : Nat → Sq) (X X2 : Nat → Nat) (r : Nat → Nat) (A A2 : Nat → Option Addr) (C C2 : Nat → Nat) : Prop where
  p : SeqsAt B w b g t wd s K Q X A C
  d : DocsAt B w b2 g2 t wd s2 K2 Q2 X2 r A2 C2
  ap : ∀ i, i < K → ∀ j, j < K2 → ∀ k, blkOf (A i) k → ¬ blkOf (A2 j) k
def BothIn (B : Nat) (w : World) (b g b2 g2 : Nat) (t : ByteArray) (wd : Nat) (s s2 : Pl) (K K2 : Nat) (Q Q2 : Nat → Sq) (X X2 : Nat → Nat) (r : Nat → Nat) : Prop := ∃ A A2 C C2, BothAt B w b g b2 g2 t wd s s2 K K2 Q Q2 X X2 r A A2 C C2
/-- what acts of both write -/
def TB (t : TypeId) : Bool := TS t || TR t || t == 51
theorem TB_TS (t : TypeId) (h : TB t = false) : TS t = false := by simp only [TB, Bool.or_eq_false_iff] at h; exact h.1.1
theorem TB_TR (t : TypeId) (h : TB t = false) : TR t = false := by simp only [TB, Bool.or_eq_false_iff] at h; exact h.1.2
theorem TB_51 (t : TypeId) (h : TB t = false) : (t == 51) = false := by simp only [TB, Bool.or_eq_false_iff] at h; exact h.2

variable {B : Nat} {w : World} {b g b2 g2 : Nat} {t : ByteArray} {wd : Nat} {s s2 : Pl} {K K2 : Nat} {Q Q2 : Nat → Sq} {X X2 : Nat → Nat} {r : Nat → Nat}

theorem DocsAt.off {A : Nat → Option Addr} {C : Nat → Nat} (h : DocsAt B w b2 g2 t wd s2 K2 Q2 X2 r A C) {B' : Nat} {T : TypeId → Bool} {w' : World} (o : Off B' T w w') (h1 : T 70 = false) (h2 : T 95 = false) (h3 : T 2 = false) (h4 : T 51 = false) (h5 : T 3 = false) : DocsAt B w' b2 g2 t wd s2 K2 Q2 X2 r A C :=
  ⟨h.pool.off o h1 h2 h3, fun i hi => (h.seq i hi).off o h4 h5, h.inj⟩
theorem SeqsAt.off {A : Nat → Option Addr} {C : Nat → Nat} (h : SeqsAt B w b g t wd s K Q X A C) {B' : Nat} {T : TypeId → Bool} {w' : World} (o : Off B' T w w') (h1 : T 67 = false) (h2 : T 88 = false) (h3 : T 72 = false) (h4 : T 3 = false) : SeqsAt B w' b g t wd s K Q X A C :=
  ⟨h.pool.off o h1 h2, fun i hi => (h.seq i hi).off o h3 h4, h.apart⟩
theorem BothIn.off (h : BothIn B w b g b2 g2 t wd s s2 K K2 Q Q2 X X2 r) {B' : Nat} {T : TypeId → Bool} {w' : World} (o : Off B' T w w') (hT : ∀ t', TB t' = true → T t' = false) : BothIn B w' b g b2 g2 t wd s s2 K K2 Q Q2 X X2 r := by
  obtain ⟨A, A2, C, C2, h⟩ := h
  exact ⟨A, A2, C, C2, h.p.off o (hT 67 rfl) (hT 88 rfl) (hT 72 rfl) (hT 3 rfl), h.d.off o (hT 70 rfl) (hT 95 rfl) (hT 2 rfl) (hT 51 rfl) (hT 3 rfl), h.ap⟩
theorem BothIn.below (h : BothIn B w b g b2 g2 t wd s s2 K K2 Q Q2 X X2 r) {w' : World} (o : Below w.heap.size w w') : BothIn B w' b g b2 g2 t wd s s2 K K2 Q Q2 X X2 r := h.off (T := fun _ => false) (B' := 0) (Off.of_below o) (fun _ _ => rfl)
theorem BothIn.drewN (h : BothIn B w b g b2 g2 t wd s s2 K K2 Q Q2 X X2 r) (m : Nat) : BothIn B (w.drewN m) b g b2 g2 t wd s s2 K K2 Q Q2 X X2 r := h.off (T := fun _ => false) (B' := 0) ((Off.refl _ _ w).drewN m) (fun _ _ => rfl)
theorem BothIn.lt (h : BothIn B w b g b2 g2 t wd s s2 K K2 Q Q2 X X2 r) : B ≤ w.heap.size := by obtain ⟨A, A2, C, C2, h⟩ := h; exact h.p.pool.lt
theorem BothIn.refLt (h : BothIn B w b g b2 g2 t wd s s2 K K2 Q Q2 X X2 r) : ∀ i, i < s2.n → (s2.pg i).ow ≠ 0 → B ≤ r i ∧ r i < w.heap.size := by
  obtain ⟨A, A2, C, C2, h⟩ := h
  exact fun i hi hu => ⟨(h.d.pool.cr i hi hu).2, (h.d.pool.cr i hi hu).1.lt⟩

/-- the document's is not touched by an act of a sequence of the program's -/
theorem DocsAt.offOwn {A : Nat → Option Addr} {C : Nat → Nat} (h : DocsAt B w b2 g2 t wd s2 K2 Q2 X2 r A C) {x : Nat} {a : Option Addr} {c : Nat} {q : Sq} {b' wd' : Nat} {t' : ByteArray} (hs : SeqAt B w x b' t' wd' q a c) (ha : ∀ j, j < K2 → ∀ k, blkOf a k → ¬ blkOf (A j) k) {w' : World} (o : OffS B TP (Own x a) w w') : DocsAt B w' b2 g2 t wd s2 K2 Q2 X2 r A C := by
  have key : ∀ {T : TypeId} {k m : Nat}, Row T w k m → T ≠ 72 → T ≠ 3 → ¬ Own x a k := fun hr h1 h2 z => by
    rcases (hs.type z).2.2 with e | e <;> (rw [hr.type] at e; injection e with e; first | exact h1 e | exact h2 e)
  refine ⟨h.pool.of_blocks (o.row h.pool.top rfl (key h.pool.top (by decide) (by decide))) (o.row h.pool.row rfl (key h.pool.row (by decide) (by decide))) (fun i hi hu => o.row (h.pool.cr i hi hu).1 rfl (key (h.pool.cr i hi hu).1 (by decide) (by decide))), fun i hi => (h.seq i hi).offS o rfl rfl (key (h.seq i hi).top (by decide) (by decide)) (fun k hk z => ?_), h.inj⟩
  rcases z with e | z
  · obtain ⟨m, hm⟩ := (h.seq i hi).ty k hk
    subst e
    exact hm.ne hs.top (by decide) rfl
  · exact ha i hi k z hk

theorem BothAt.did {A A2 : Nat → Option Addr} {C C2 : Nat → Nat} (h : BothAt B w b g b2 g2 t wd s s2 K K2 Q Q2 X X2 r A A2 C C2) {i : Nat} (hi : i < K) {s' : Pl} {q' : Sq} {w' : World} (d : Did B w (X i) b g t wd (A i) s' q' w') : BothIn B w' b g b2 g2 t wd s' s2 K K2 (upd Q i q') Q2 X X2 r ∧ Off B TS w w' := by
  obtain ⟨a', c', hp, hs, hb, ho⟩ := d
  have hd := h.d.offOwn (h.p.seq i hi) (fun j hj k hk => h.ap i hi j hj k hk) ho
  have hap : ∀ j, j < K2 → ∀ k, blkOf a' k → ¬ blkOf (A2 j) k := fun j hj k hk hk' => by
    rcases hb k hk with z | z
    · exact h.ap i hi j hj k z hk'
    · have := (h.d.seq j hj).lt hk'
      omega
  have hof := ho.off (h.p.seq i hi)
  refine ⟨⟨upd A i a', A2, upd C i c', C2, ⟨hp, fun j hj => ?_, fun j hj k hk hne l hl hl' => ?_⟩, hd, fun j hj k hk l hl => ?_⟩, hof.mono (fun t ht => ?_)⟩
  · by_cases e : j = i
    · subst e
      rw [upd_same, upd_same, upd_same]
      exact hs
    · rw [upd_other _ _ _ _ e, upd_other _ _ _ _ e, upd_other _ _ _ _ e]
      exact (h.p.seq j hj).offS ho rfl rfl (h.p.apart j hj i hi e)
  · have key : ∀ l, Own (X i) a' l → Own (X i) (A i) l ∨ w.heap.size ≤ l := fun l hl => by
      rcases hl with rfl | hl
      · exact .inl (.inl rfl)
      · exact (hb l hl).imp (fun z => .inr z) id
    by_cases e : j = i
    · subst e
      rw [upd_same] at hl
      rw [upd_other _ _ _ _ (Ne.symm hne)] at hl'
      rcases key l hl with z | z
      · exact h.p.apart j hj k hk hne l z hl'
      · have := ((h.p.seq k hk).type hl').2.1
        omega
    · rw [upd_other _ _ _ _ e] at hl
      by_cases f : k = i
      · subst f
        rw [upd_same] at hl'
        rcases key l hl' with z | z
        · exact h.p.apart j hj k hk hne l hl z
        · have := ((h.p.seq j hj).type hl).2.1
          omega
      · rw [upd_other _ _ _ _ f] at hl'
        exact h.p.apart j hj k hk hne l hl hl'
  · by_cases e : j = i
    · subst e
      rw [upd_same] at hl
      exact hap k hk l hl
    · rw [upd_other _ _ _ _ e] at hl
      exact h.ap j hj k hk l hl
  · simp only [TS, Bool.or_eq_false_iff] at ht
    simp only [TP, Bool.or_eq_false_iff]
    exact ⟨⟨ht.1.1, ht.1.2⟩, ht.2⟩

theorem BothAt.didR {A A2 : Nat → Option Addr} {C C2 : Nat → Nat} (h : BothAt B w b g b2 g2 t wd s s2 K K2 Q Q2 X X2 r A A2 C C2) {i : Nat} (hi : i < K2) {s' : Pl} {q' : Sq} {w' : World} (d : DidR B w (X2 i) b2 g2 t wd (A2 i) s' q' w') : ∃ r', BothIn B w' b g b2 g2 t wd s s' K K2 Q (upd Q2 i q') X X2 r' ∧ Off B TB w w' := by
  obtain ⟨a', c', r', hp, hs, hb, ho⟩ := d
  have hof := ho.offD (h.d.seq i hi)
  have hof' : Off B (fun t => TR t || t == 51) w w' := hof
  have hp' := h.p.off hof' rfl rfl rfl rfl
  refine ⟨r', ⟨A, upd A2 i a', C, upd C2 i c', hp', ⟨hp, fun j hj => ?_, h.d.inj⟩, fun j hj k hk l hl hl' => ?_⟩, hof'.mono (fun t ht => ?_)⟩
  · by_cases e : j = i
    · subst e
      rw [upd_same, upd_same, upd_same]
      exact hs
    · rw [upd_other _ _ _ _ e, upd_other _ _ _ _ e, upd_other _ _ _ _ e]
      refine (h.d.seq j hj).offS ho rfl rfl (h.d.inj j hj i hi e) (fun k hk z => ?_)
      obtain ⟨m, hm⟩ := (h.d.seq j hj).ty k hk
      subst z
      exact hm.ne (h.d.seq i hi).top (by decide) rfl
  · by_cases e : k = i
    · subst e
      rw [upd_same] at hl'
      rcases hb l hl' with z | z
      · exact h.ap j hj k hk l hl z
      · have := ((h.p.seq j hj).type (.inr hl)).2.1
        omega
    · rw [upd_other _ _ _ _ e] at hl'
      exact h.ap j hj k hk l hl hl'
  · simp only [Bool.or_eq_false_iff]
    exact ⟨TB_TR t ht, TB_51 t ht⟩

theorem BothIn.append (h : BothIn B w b g b2 g2 t wd s s2 K K2 Q Q2 X X2 r) {N : Nat} (hM : Many N t wd s K Q) {i : Nat} (hi : i < K) (hn : (Q i).n < 1000) {B' : Nat} {ra : Option Addr} {rl rc : Nat} {zs : List Int} (hr : RowJ B' w ra rl rc zs) :
    Calls Try.prog 12 #[.pointer (some ⟨X i, 0, none⟩), .slice ra rl rc] w fun e w' => e = .returned (.int .i64 (appE wd t s (Q i) zs)) ∧ BothIn B w' b g b2 g2 t wd (appS wd t s (Q i) zs) s2 K K2 (upd Q i (appQ wd t s (Q i) zs)) Q2 X X2 r ∧ Off B TS w w' := by
  obtain ⟨A, A2, C, C2, h⟩ := h
  refine (append_call (h.p.seq i hi) h.p.pool hM.good ⟨by decide, by decide⟩ (hM.ok i hi) hn ra rl rc zs hr).mono ?_
  rintro e w' ⟨rfl, d⟩
  exact ⟨rfl, h.did hi d⟩
theorem BothIn.keep (h : BothIn B w b g b2 g2 t wd s s2 K K2 Q Q2 X X2 r) {N : Nat} (hM : Many N t wd s K Q) {i : Nat} (hi : i < K) (k : Int) (hk : k ≤ 9223372036854775807) :
    Calls Try.prog 16 #[.pointer (some ⟨X i, 0, none⟩), .int .i64 k] w fun e w' => e = .returned (.tuple #[]) ∧ BothIn B w' b g b2 g2 t wd (keepS wd s (Q i) k) s2 K K2 (upd Q i (keepQ wd (Q i) k)) Q2 X X2 r ∧ Off B TS w w' := by
  obtain ⟨A, A2, C, C2, h⟩ := h
  refine (keep_call (h.p.seq i hi) h.p.pool hM.good (by decide) (hM.ok i hi) k hk).mono ?_
  rintro e w' ⟨rfl, d⟩
  exact ⟨rfl, h.did hi d⟩
theorem BothIn.end_ (h : BothIn B w b g b2 g2 t wd s s2 K K2 Q Q2 X X2 r) {N : Nat} (hM : Many N t wd s K Q) {i : Nat} (hi : i < K) :
    Calls Try.prog 18 #[.pointer (some ⟨X i, 0, none⟩)] w fun e w' => e = .returned (.tuple #[]) ∧ BothIn B w' b g b2 g2 t wd (endS s (Q i)) s2 K K2 (upd Q i (endQ (Q i))) Q2 X X2 r ∧ Off B TS w w' := by
  obtain ⟨A, A2, C, C2, h⟩ := h
  refine (end_call (h.p.seq i hi) h.p.pool hM.good (by decide) (hM.len hi)).mono ?_
  rintro e w' ⟨rfl, d⟩
  exact ⟨rfl, h.did hi d⟩
theorem BothIn.rapp (h : BothIn B w b g b2 g2 t wd s s2 K K2 Q Q2 X X2 r) {N : Nat} (hM : Many N t wd s2 K2 Q2) {i : Nat} (hi : i < K2) (hn : (Q2 i).n < 1000) {ra : Option Addr} {rl rc : Nat} {zs : List Int} (hr : Apart B w ra rl zs s2 r) :
    Calls Try.prog 13 #[.pointer (some ⟨X2 i, 0, none⟩), .slice ra rl rc] w fun e w' => e = .returned (.int .i64 (appE wd t s2 (Q2 i) zs)) ∧ ∃ r', BothIn B w' b g b2 g2 t wd s (appS wd t s2 (Q2 i) zs) K K2 Q (upd Q2 i (appQ wd t s2 (Q2 i) zs)) X X2 r' ∧ Off B TB w w' := by
  obtain ⟨A, A2, C, C2, h⟩ := h
  refine (rapp_call (h.d.seq i hi) h.d.pool hM.good ⟨by decide, by decide⟩ (hM.ok i hi) hn ra rl rc zs hr).mono ?_
  rintro e w' ⟨rfl, d⟩
  exact ⟨rfl, h.didR hi d⟩
theorem BothIn.rkeep (h : BothIn B w b g b2 g2 t wd s s2 K K2 Q Q2 X X2 r) {N : Nat} (hM : Many N t wd s2 K2 Q2) {i : Nat} (hi : i < K2) (k : Int) (hk : k ≤ 9223372036854775807) :
    Calls Try.prog 17 #[.pointer (some ⟨X2 i, 0, none⟩), .int .i64 k] w fun e w' => e = .returned (.tuple #[]) ∧ ∃ r', BothIn B w' b g b2 g2 t wd s (keepS wd s2 (Q2 i) k) K K2 Q (upd Q2 i (keepQ wd (Q2 i) k)) X X2 r' ∧ Off B TB w w' := by
  obtain ⟨A, A2, C, C2, h⟩ := h
  refine (rkeep_call (h.d.seq i hi) h.d.pool hM.good (by decide) (hM.ok i hi) k hk).mono ?_
  rintro e w' ⟨rfl, d⟩
  exact ⟨rfl, h.didR hi d⟩
theorem BothIn.rend (h : BothIn B w b g b2 g2 t wd s s2 K K2 Q Q2 X X2 r) {N : Nat} (hM : Many N t wd s2 K2 Q2) {i : Nat} (hi : i < K2) :
    Calls Try.prog 19 #[.pointer (some ⟨X2 i, 0, none⟩)] w fun e w' => e = .returned (.tuple #[]) ∧ ∃ r', BothIn B w' b g b2 g2 t wd s (endS s2 (Q2 i)) K K2 Q (upd Q2 i (endQ (Q2 i))) X X2 r' ∧ Off B TB w w' := by
  obtain ⟨A, A2, C, C2, h⟩ := h
  refine (rend_call (h.d.seq i hi) h.d.pool hM.good (by decide) (hM.len hi)).mono ?_
  rintro e w' ⟨rfl, d⟩
  exact ⟨rfl, h.didR hi d⟩
theorem BothIn.fork (h : BothIn B w b g b2 g2 t wd s s2 K K2 Q Q2 X X2 r) {N : Nat} (hM : Many N t wd s K Q) {i : Nat} (hi : i < K) :
    Calls Try.prog 14 #[.pointer (some ⟨X i, 0, none⟩)] w fun e w' => ∃ x', e = .returned (.pointer (some ⟨x', 0, none⟩)) ∧ BothIn B w' b g b2 g2 t wd (forkS s (Q i)) s2 (K + 1) K2 (upd Q K (Q i)) Q2 (upd X K x') X2 r ∧ Off B TS w w' := by
  obtain ⟨A, A2, C, C2, h⟩ := h
  refine (fork_call (h.p.seq i hi) h.p.pool hM.good (by decide) (hM.len hi)).mono ?_
  rintro e w' ⟨x', rfl, a', c', hx, hb, hp, hs, ho⟩
  have key : ∀ l, Own x' a' l → w.heap.size ≤ l := fun l hl => by
    rcases hl with rfl | hl
    · exact hx
    · exact hb l hl
  refine ⟨x', rfl, ⟨upd A K a', A2, upd C K c', C2, ⟨hp, fun j hj => ?_, fun j hj k hk hne l hl hl' => ?_⟩, h.d.off ho rfl rfl rfl rfl rfl, fun j hj k hk l hl hl' => ?_⟩, ho.mono (fun t ht => ?_)⟩
  · by_cases e : j = K
    · subst e
      rw [upd_same, upd_same, upd_same, upd_same]
      exact hs
    · rw [upd_other _ _ _ _ e, upd_other _ _ _ _ e, upd_other _ _ _ _ e, upd_other _ _ _ _ e]
      exact (h.p.seq j (by omega)).off ho rfl rfl
  · by_cases e : j = K
    · subst e
      rw [upd_same, upd_same] at hl
      rw [upd_other _ _ _ _ (Ne.symm hne), upd_other _ _ _ _ (Ne.symm hne)] at hl'
      have := key l hl
      have := ((h.p.seq k (by omega)).type hl').2.1
      omega
    · rw [upd_other _ _ _ _ e, upd_other _ _ _ _ e] at hl
      by_cases f : k = K
      · subst f
        rw [upd_same, upd_same] at hl'
        have := key l hl'
        have := ((h.p.seq j (by omega)).type hl).2.1
        omega
      · rw [upd_other _ _ _ _ f, upd_other _ _ _ _ f] at hl'
        exact h.p.apart j (by omega) k (by omega) hne l hl hl'
  · by_cases e : j = K
    · subst e
      rw [upd_same] at hl
      have := hb l hl
      have := (h.d.seq k hk).lt hl'
      omega
    · rw [upd_other _ _ _ _ e] at hl
      exact h.ap j (by omega) k hk l hl hl'
  · simp only [TS, Bool.or_eq_false_iff] at ht
    simp only [TP, Bool.or_eq_false_iff]
    exact ht.1.1
theorem BothIn.rfork (h : BothIn B w b g b2 g2 t wd s s2 K K2 Q Q2 X X2 r) {N : Nat} (hM : Many N t wd s2 K2 Q2) {i : Nat} (hi : i < K2) :
    Calls Try.prog 15 #[.pointer (some ⟨X2 i, 0, none⟩)] w fun e w' => ∃ x', e = .returned (.pointer (some ⟨x', 0, none⟩)) ∧ BothIn B w' b g b2 g2 t wd s (forkS s2 (Q2 i)) K (K2 + 1) Q (upd Q2 K2 (Q2 i)) X (upd X2 K2 x') r ∧ Off B TQ w w' := by
  obtain ⟨A, A2, C, C2, h⟩ := h
  refine (rfork_call (h.d.seq i hi) h.d.pool hM.good (by decide) (hM.len hi)).mono ?_
  rintro e w' ⟨x', rfl, a', c', hx, hp, hs, hb, ho⟩
  refine ⟨x', rfl, ⟨A, upd A2 K2 a', C, upd C2 K2 c', h.p.off ho rfl rfl rfl rfl, ⟨hp, fun j hj => ?_, fun j hj k hk hne => ?_⟩, fun j hj k hk l hl hl' => ?_⟩, ho⟩
  · by_cases e : j = K2
    · subst e
      rw [upd_same, upd_same, upd_same, upd_same]
      exact hs
    · rw [upd_other _ _ _ _ e, upd_other _ _ _ _ e, upd_other _ _ _ _ e, upd_other _ _ _ _ e]
      exact (h.d.seq j (by omega)).off ho rfl rfl
  · by_cases e : j = K2
    · subst e
      rw [upd_same, upd_other _ _ _ _ (Ne.symm hne)]
      have := (h.d.seq k (by omega)).top.lt
      omega
    · rw [upd_other _ _ _ _ e]
      by_cases f : k = K2
      · subst f
        rw [upd_same]
        have := (h.d.seq j (by omega)).top.lt
        omega
      · rw [upd_other _ _ _ _ f]
        exact h.d.inj j (by omega) k (by omega) hne
  · by_cases e : k = K2
    · subst e
      rw [upd_same] at hl'
      have := hb l hl'
      have := ((h.p.seq j hj).type (.inr hl)).2.1
      omega
    · rw [upd_other _ _ _ _ e] at hl'
      exact h.ap j hj k (by omega) l hl hl'
theorem BothIn.same (h : BothIn B w b g b2 g2 t wd s s K K Q Q X X2 r) {N : Nat} (hM : Many N t wd s K Q) {i : Nat} (hi : i < K) (z : Int) :
    Calls Try.prog 20 #[.pointer (some ⟨X i, 0, none⟩), .pointer (some ⟨X2 i, 0, none⟩), .int .i64 z] w fun e w' => e = .returned (.bool true) ∧ Below w.heap.size w w' := by
  obtain ⟨A, A2, C, C2, h⟩ := h
  exact same13_call (h.p.seq i hi) h.p.pool (h.d.seq i hi) h.d.pool hM.good (hM.ok i hi) (hM.mem hi) hM.wf z
theorem BothIn.pools (h : BothIn B w b g b2 g2 t wd s s K K Q Q X X2 r) {N : Nat} (hM : Many N t wd s K Q) :
    Calls Try.prog 21 #[.pointer (some ⟨b, 0, none⟩), .pointer (some ⟨b2, 0, none⟩)] w fun e w' => e = .returned (.bool true) ∧ ∃ m, w' = w.drewN m := by
  obtain ⟨A, A2, C, C2, h⟩ := h
  exact samePools_call h.p.pool h.d.pool hM.good
theorem both_new {x x2 : Nat} (hp : PoolAt B w b g s) (hs : SeqAt B w x b t wd ⟨[], 0, 0⟩ none 0) (hp2 : RefAt B w b2 g2 s r) (hs2 : DocAt B w x2 b2 t wd ⟨[], 0, 0⟩ none 0) : BothIn B w b g b2 g2 t wd s s 1 1 (fun _ => ⟨[], 0, 0⟩) (fun _ => ⟨[], 0, 0⟩) (fun _ => x) (fun _ => x2) r :=
  ⟨fun _ => none, fun _ => none, fun _ => 0, fun _ => 0, ⟨hp, fun i hi => hs, fun i hi j hj hne => by omega⟩, ⟨hp2, fun i hi => hs2, fun i hi j hj hne => by omega⟩, fun i hi j hj k hk => by obtain ⟨_, h, _⟩ := hk; cases h⟩
theorem BothIn.nAt (h : BothIn B w b g b2 g2 t wd s s2 K K2 Q Q2 X X2 r) {i : Nat} (hi : i < K2) : w.cell? ⟨X2 i, 5, none⟩ = some (.int .i64 (Q2 i).n) := by
  obtain ⟨A, A2, C, C2, h⟩ := h
  exact (h.d.seq i hi).c5

end Go.Proofs.Ytgjjeggopeppfaa
