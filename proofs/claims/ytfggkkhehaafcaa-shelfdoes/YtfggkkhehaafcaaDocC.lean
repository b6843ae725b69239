/- Texts put together: DsPin, Resv, DsIn, DsPool, DsActs, BothS, BothP. -/
import Derived.Test.YtfggkkhehaafcaaRows
import Derived.Test.YtfggkkhehaafcaaPages
import Derived.Test.YtfggkkhehaafcaaView
import Derived.Test.YtfggkkhehaafcaaOwn
import Derived.Test.YtfggkkhehaafcaaReadsP
import Derived.Test.YtfggkkhehaafcaaReadsQ
import Derived.Test.YtfggkkhehaafcaaLeast
import Derived.Test.YtfggkkhehaafcaaLays
import Derived.Test.YtfggkkhehaafcaaRefPg
import Derived.Test.YtfggkkhehaafcaaRefRd
import Derived.Test.YtfggkkhehaafcaaNews
import Derived.Test.YtfggkkhehaafcaaGoods
import Derived.Test.YtfggkkhehaafcaaPlain
import Derived.Test.YtfggkkhehaafcaaNeeds
import Derived.Test.YtfggkkhehaafcaaPlace
import Derived.Test.YtfggkkhehaafcaaFetch
import Derived.Test.YtfggkkhehaafcaaFetched
import Derived.Test.YtfggkkhehaafcaaMapV
import Derived.Test.YtfggkkhehaafcaaShPlain
import Derived.Test.YtfggkkhehaafcaaShActs
import Derived.Test.YtfggkkhehaafcaaShAt
import Derived.Test.YtfggkkhehaafcaaIndex
import Derived.Test.YtfggkkhehaafcaaShLoose
import Derived.Test.YtfggkkhehaafcaaShBring
import Derived.Test.YtfggkkhehaafcaaWorksK
import Derived.Test.YtfggkkhehaafcaaOpenOps
import Derived.Test.YtfggkkhehaafcaaDocA
import Derived.Test.YtfggkkhehaafcaaPlaces
import Derived.Test.YtfggkkhehaafcaaLies
import Derived.Test.YtfggkkhehaafcaaRelease
import Derived.Test.YtfggkkhehaafcaaRefRel
import Derived.Test.YtfggkkhehaafcaaInvIn
import Derived.Test.YtfggkkhehaafcaaDocB
import Derived.Test.YtfggkkhehaafcaaDsPinC
import Derived.WalkKit
import Derived.ProofKit
import Derived.OpenShut
import Derived.Below
import Derived.WalkLawsBesides
import Derived.Deep.QuietTactic
import Derived.BigQuiet
import Derived.Maps.OwnSet
import Derived.Laws.OwnMore
import Derived.Maps.AppendAt
import Derived.OwnWalk
import Derived.Deep.RegionHeld3
import Derived.Test.YtfggkkhehaafcaaRefTk
import Derived.Test.YtfggkkhehaafcaaRefLays
import Derived.Test.YtfggkkhehaafcaaShTurn
import Derived.Test.YtfggkkhehaafcaaShIn
import Derived.Test.YtfggkkhehaafcaaTurns
import Derived.Test.YtfggkkhehaafcaaRefTurns
namespace Go.Proofs.Ytfggkkhehaafcaa

/- The document's Pin. -/
section
open Go.ChangeShapes Go.WideShapes Go.ChangeAt Go.RowKit
set_option linter.unusedVariables false
set_option linter.unusedSimpArgs false

theorem refPin_call {B : Nat} {w : World} {y p g cap : Nat} {a : Option Addr} {c : Nat} {D : List DI} {s : Pl} {r : Nat → Nat} (h : DsAt B w y p a c D) (hr : RefAt B w p g s r) (hok : ShOk cap s (itsD D)) (hc : cap ≤ 1000) (hB : B ≤ w.heap.size) (n : ByteArray) :
    Calls Try.prog 32 #[.pointer (some ⟨y, 0, none⟩), .string n] w fun e w' => e = .returned (.int .i64 (pinE s (itsD D) n)) ∧ (∃ a' c' D' r', DsAt B w' y p a' c' D' ∧ RefAt B w' p g (pinP s (itsD D) n).1 r' ∧ itsD D' = (pinP s (itsD D) n).2) ∧ Off B TZ w w' := by
  have hl : D.length ≤ 1000 := by have := hok.few; unfold itsD at this; rw [List.length_map] at this; omega
  unfold pinE pinP
  cases hi : look (itsD D) n with
  | none =>
    have k := at_no h n (look_not hi) (by omega)
    have HH := hidden_ (And.intro h hr)
    simp only
    clear h hi hr hok
    go_enter Try.func32, Try.ntmps32
    go_wp2_with (first | (go_at_call 44; refine k.mono ?_; rintro e w' ⟨rfl, h1⟩; obtain rfl := h1.symm))
    go_ret
    exact ⟨rfl, ⟨a, c, D, r, HH.out.1, HH.out.2, rfl⟩, Off.refl _ _ _⟩
  | some it =>
    obtain ⟨K, x, hK, rfl, hx, hKl, hne⟩ := look_at hi
    simp only
    by_cases his : x.it.is = true
    · rw [if_pos his, if_pos his]
      refine (refPin_is h hr hok hc hB n hK hx hne his).mono ?_
      rintro e w' ⟨rfl, ⟨a', c', D', q1, q2⟩, q3, q4⟩
      exact ⟨rfl, ⟨a', c', D', r, q1, q3, q2⟩, q4⟩
    · rw [if_neg his, if_neg his]
      have his' : x.it.is = false := by simpa using his
      by_cases hroom : roomZ s (itsD D) < needZ x.it.W.length
      · rw [if_pos hroom, if_pos hroom]
        refine (refPin_no h hr hok hc n hK hx hne his' hroom).mono ?_
        rintro e w' ⟨rfl, q⟩
        exact ⟨rfl, ⟨a, c, D, r, h.below q, hr.below q, rfl⟩, Off.of_below q⟩
      · rw [if_neg hroom, if_neg hroom]
        refine (refPin_yes h hr hok hc hB n hK hx hne hi his' hroom).mono ?_
        rintro e w' ⟨rfl, ⟨a', c', D', r', q1, q2, q3⟩, q4⟩
        exact ⟨rfl, ⟨a', c', D', r', q1, q3, q2⟩, q4⟩
end

/- Reserve, on both sides. -/
section
open Go.ChangeShapes Go.WideShapes Go.ChangeAt Go.RowKit
set_option linter.unusedVariables false
set_option linter.unusedSimpArgs false

theorem reserve_call {B m : Nat} {w : World} {b g : Nat} {s : Pl} (h : PoolAt B w b g s) (hG : Good m s) (k : Int) :
    Calls Try.prog 39 #[.pointer (some ⟨b, 0, none⟩), .int .i64 k] w fun e w' => e = .returned (.int .i64 (resE s k)) ∧ PoolAt B w' b g (resS s k) ∧ Off B TP w w' := by
  unfold resS
  by_cases h0 : k < 0
  · have e : resE s k = 20 := by simp [resE, h0]
    simp only [e]
    rw [if_neg (by decide)]
    have HP := hidden_ h
    clear e h hG
    go_enter Try.func39, Try.ntmps39
    go_wp2
    go_ret
    exact ⟨rfl, HP.out, Off.refl _ _ _⟩
  · have k39 := atHand_call h hG.n1 hG.a0 hG.few
    have fl := freeTo_le s.pg s.n
    have n1 := hG.n1
    have a0 := hG.a0
    have fw := hG.few
    by_cases h1 : (freeTo s.pg s.n : Int) - s.aside < k
    · have e : resE s k = 6 := by simp [resE, h0, h1]
      simp only [e]
      rw [if_neg (by decide)]
      obtain ⟨F, eF⟩ : ∃ F, (freeTo s.pg s.n : Int) - s.aside = F := ⟨_, rfl⟩
      rw [eF] at k39 h1
      have HP := hidden_ h
      clear e h hG eF a0 n1 fl fw
      go_enter Try.func39, Try.ntmps39
      go_wp2_with (first | (go_at_call 65; refine k39.mono ?_; rintro e W1 ⟨rfl, m', h1⟩; have HW := hidden_ h1; clear h1))
      go_ret
      exact ⟨rfl, by rw [HW.out]; exact HP.out.drewN m', by rw [HW.out]; exact (Off.refl _ _ _).drewN m'⟩
    · have e : resE s k = 0 := by simp [resE, h0, h1]
      simp only [e]
      rw [if_pos trivial]
      have k' : k ≤ 256 := by omega
      obtain ⟨F, eF⟩ : ∃ F, (freeTo s.pg s.n : Int) - s.aside = F := ⟨_, rfl⟩
      rw [eF] at k39 h1
      have HP := hidden_ h
      have HA := hidden_ (fun m' => (h.drewN m').t1)
      obtain ⟨A, eA⟩ : ∃ A, s.aside = A := ⟨_, rfl⟩
      rw [eA] at a0 fw HA ⊢
      clear e h hG eF n1 fl eA
      go_enter Try.func39, Try.ntmps39
      go_wp2_with (first | (go_at_call 65; refine k39.mono ?_; rintro e W1 ⟨rfl, m', h1⟩; have HW := hidden_ h1; have q1 := HA.out m'; rw [← h1] at q1; have hp := HP.out.drewN m'; rw [← h1] at hp; have q2 := hp.top.open_ 1; have HP2 := hidden_ hp; clear h1 hp))
      go_ret
      obtain ⟨x, y⟩ := HP2.out.setAside (A + k)
      exact ⟨rfl, x, y.of_drawn HW.out⟩

theorem refReserve_call {B m : Nat} {w : World} {b g : Nat} {s : Pl} {r : Nat → Nat} (h : RefAt B w b g s r) (hG : Good m s) (k : Int) :
    Calls Try.prog 40 #[.pointer (some ⟨b, 0, none⟩), .int .i64 k] w fun e w' => e = .returned (.int .i64 (resE s k)) ∧ RefAt B w' b g (resS s k) r ∧ Off B TR w w' := by
  unfold resS
  have HP := hidden_ h
  by_cases h0 : k < 0
  · have e : resE s k = 20 := by simp [resE, h0]
    simp only [e]
    rw [if_neg (by decide)]
    clear e h hG
    go_enter Try.func40, Try.ntmps40
    go_wp2
    go_ret
    exact ⟨rfl, HP.out, Off.refl _ _ _⟩
  · have k36 := fun m => refFree_call (h.drewN m) hG.n1
    have fl := freeTo_le s.pg s.n
    have n1 := hG.n1
    have a0 := hG.a0
    have fw := hG.few
    have t1 := h.t1
    by_cases h1 : (freeTo s.pg s.n : Int) - s.aside < k
    · have e : resE s k = 6 := by simp [resE, h0, h1]
      simp only [e]
      rw [if_neg (by decide)]
      obtain ⟨F, eF⟩ : ∃ F, freeTo s.pg s.n = F := ⟨_, rfl⟩
      obtain ⟨A, eA⟩ : ∃ A, s.aside = A := ⟨_, rfl⟩
      rw [eF, eA] at h1
      rw [eF] at k36 fl
      rw [eA] at t1 a0 fw
      have fl' : F ≤ 256 := by omega
      clear e h hG eF eA n1 fl
      go_enter Try.func40, Try.ntmps40
      go_wp2
      go_quiet (first | (go_at_call 50; exact Calls.quiet_of_same (k36 _)))
      go_wp2
      go_ret
      exact ⟨rfl, HP.out.drewN _, (Off.refl _ _ _).drewN _⟩
    · have e : resE s k = 0 := by simp [resE, h0, h1]
      simp only [e]
      rw [if_pos trivial]
      have k' : k ≤ 256 := by omega
      have q2 := h.top.open_ 1
      obtain ⟨F, eF⟩ : ∃ F, freeTo s.pg s.n = F := ⟨_, rfl⟩
      obtain ⟨A, eA⟩ : ∃ A, s.aside = A := ⟨_, rfl⟩
      rw [eF, eA] at h1
      rw [eF] at k36 fl
      rw [eA] at t1 a0 fw ⊢
      have fl' : F ≤ 256 := by omega
      have HA := hidden_ (h.setAside (A + k))
      clear e h hG eF eA n1 fl
      go_enter Try.func40, Try.ntmps40
      go_wp2
      go_quiet (first | (go_at_call 50; exact Calls.quiet_of_same (k36 _)))
      go_wp2
      go_ret
      exact ⟨rfl, HA.out.1.drewN _, HA.out.2.drewN _⟩
end

/- The document's shelf: contracts over what holds of it. -/
section
open Go.ChangeShapes Go.WideShapes Go.ChangeAt Go.RowKit
set_option linter.unusedVariables false
set_option linter.unusedSimpArgs false

/-- the document's shelf and its pool in memory -/
def Df (B : Nat) (w : World) (y p g : Nat) (s : Pl) (L : List It) : Prop := ∃ a c D r, DsAt B w y p a c D ∧ RefAt B w p g s r ∧ itsD D = L
theorem Df.below {B : Nat} {w : World} {y p g : Nat} {s : Pl} {L : List It} (h : Df B w y p g s L) {w' : World} (hb : Below w.heap.size w w') : Df B w' y p g s L := by
  obtain ⟨a, c, D, r, h1, h2, h3⟩ := h
  exact ⟨a, c, D, r, h1.below hb, h2.below hb, h3⟩
theorem Df.drewN {B : Nat} {w : World} {y p g : Nat} {s : Pl} {L : List It} (h : Df B w y p g s L) (m : Nat) : Df B (w.drewN m) y p g s L := by
  obtain ⟨a, c, D, r, h1, h2, h3⟩ := h
  exact ⟨a, c, D, r, h1.drewN m, h2.drewN m, h3⟩
/-- what the program's shelf does leaves the document's as it was -/
theorem Df.prog {B : Nat} {w : World} {y p g : Nat} {s : Pl} {L : List It} {x mb b g' : Nat} {a : Option Addr} {s' : Pl} {L' : List It} {cap : Nat} (h : Df B w y p g s L) (hs : Sf B w x mb b g' a s' L' cap) {w' : World} (o : OffS B TS (SS mb a) w w') : Df B w' y p g s L := by
  obtain ⟨a', c, D, r, h1, h2, h3⟩ := h
  have nS : ∀ {t i m}, Row t w i m → t ≠ 9 → ¬ SS mb a i := fun {t i m} rr ht hS => by
    rcases hS with e | e
    · have := hs.mapLt.2.2
      rw [← e, rr.type] at this
      cases this
    · obtain ⟨_, _, m', r'⟩ := hs.ordLt e
      exact rr.ne r' ht rfl
  refine ⟨a', c, D, r, h1.keep fun i t hi ht hT => ?_, h2.of_blocks (o.row h2.top rfl (nS h2.top (by decide))) (o.row h2.row rfl (nS h2.row (by decide))) (fun i hi ho => o.row (h2.cr i hi ho).1 rfl (nS (h2.cr i hi ho).1 (by decide))), h3⟩
  have hT' : t = 36 ∨ t = 82 ∨ t = 59 ∨ t = 3 := by
    unfold TD at hT
    simp only [Bool.or_eq_true, beq_iff_eq] at hT
    rcases hT with ((e | e) | e) | e
    · exact .inl e
    · exact .inr (.inl e)
    · exact .inr (.inr (.inl e))
    · exact .inr (.inr (.inr e))
  refine o.block i hi (.inr ⟨fun hS => ?_, fun u hu => ?_⟩)
  · rcases hS with e | e
    · have := hs.mapLt.2.2
      rw [← e, ht] at this
      cases this
    · obtain ⟨_, _, m', r'⟩ := hs.ordLt e
      have := r'.type
      rw [ht] at this
      have e9 := Option.some.inj this
      rcases hT' with e' | e' | e' | e' <;> (rw [e'] at e9; exact absurd e9 (by decide))
  · rw [ht] at hu
    obtain rfl := Option.some.inj hu
    rcases hT' with rfl | rfl | rfl | rfl <;> rfl
theorem Sf.doc {B : Nat} {w w' : World} {x mb b g : Nat} {a : Option Addr} {s : Pl} {L : List It} {cap : Nat} (h : Sf B w x mb b g a s L cap) (o : Off B TZ w w') : Sf B w' x mb b g a s L cap := h.off o rfl rfl rfl rfl rfl rfl rfl

theorem df_put {B : Nat} {w : World} {y p g : Nat} {s : Pl} {L : List It} {cap : Nat} (h : Df B w y p g s L) (hok : ShOk cap s L) (hc : cap ≤ 900) (hB : B ≤ w.heap.size) (n : ByteArray) (hn : n.size ≤ maxLen) (za : Option Addr) (zn zc : Nat) (Z : List Int) (hZ : Reads .i8 w za zn Z) (hzn : zn ≤ 2000) :
    Calls Try.prog 30 #[.pointer (some ⟨y, 0, none⟩), .string n, .slice za zn zc] w fun e w' => e = .returned (.int .i64 (putE L n)) ∧ Df B w' y p g s (putL L n Z) ∧ Off B TZ w w' := by
  obtain ⟨a, c, D, r, h1, h2, rfl⟩ := h
  have hl : D.length ≤ 1000 := by have := hok.few; unfold itsD at this; rw [List.length_map] at this; omega
  refine (refPut14_call h1 hB hl n hn za zn zc Z hZ hzn).mono ?_
  rintro e w' ⟨rfl, ⟨a', c', D', q1, q2⟩, o⟩
  have hz := h1.toZ tz_36 o
  have nb : ∀ {t k m}, Row t w k m → t ≠ 82 → ¬ blkOf a k := fun {t k m} rr ht hb => by
    obtain ⟨_, m', r'⟩ := own_blk h1.own hb
    exact rr.ne r' ht rfl
  exact ⟨rfl, ⟨a', c', D', r, q1, h2.of_blocks (o.row h2.top rfl (nb h2.top (by decide))) (o.row h2.row rfl (nb h2.row (by decide))) (fun i hi ho => o.row (h2.cr i hi ho).1 rfl (nb (h2.cr i hi ho).1 (by decide))), q2⟩, hz⟩
theorem df_remove {B : Nat} {w : World} {y p g : Nat} {s : Pl} {L : List It} {cap : Nat} (h : Df B w y p g s L) (hok : ShOk cap s L) (hc : cap ≤ 900) (hB : B ≤ w.heap.size) (n : ByteArray) :
    Calls Try.prog 31 #[.pointer (some ⟨y, 0, none⟩), .string n] w fun e w' => e = .returned (.int .i64 (remE L n)) ∧ Df B w' y p g (remS s L n) (remL L n) ∧ Off B TZ w w' := by
  obtain ⟨a, c, D, r, h1, h2, rfl⟩ := h
  refine (refRemove_call h1 h2 hok (by omega) hB n).mono ?_
  rintro e w' ⟨rfl, ⟨a', c', D', r', q1, q2, q3⟩, o⟩
  exact ⟨rfl, ⟨a', c', D', r', q1, q2, q3⟩, o⟩
theorem df_pin {B : Nat} {w : World} {y p g : Nat} {s : Pl} {L : List It} {cap : Nat} (h : Df B w y p g s L) (hok : ShOk cap s L) (hc : cap ≤ 900) (hB : B ≤ w.heap.size) (n : ByteArray) :
    Calls Try.prog 32 #[.pointer (some ⟨y, 0, none⟩), .string n] w fun e w' => e = .returned (.int .i64 (pinE s L n)) ∧ Df B w' y p g (pinP s L n).1 (pinP s L n).2 ∧ Off B TZ w w' := by
  obtain ⟨a, c, D, r, h1, h2, rfl⟩ := h
  refine (refPin_call h1 h2 hok (by omega) hB n).mono ?_
  rintro e w' ⟨rfl, ⟨a', c', D', r', q1, q2, q3⟩, o⟩
  exact ⟨rfl, ⟨a', c', D', r', q1, q2, q3⟩, o⟩
theorem df_unpin {B : Nat} {w : World} {y p g : Nat} {s : Pl} {L : List It} {cap : Nat} (h : Df B w y p g s L) (hok : ShOk cap s L) (hc : cap ≤ 900) (n : ByteArray) :
    Calls Try.prog 33 #[.pointer (some ⟨y, 0, none⟩), .string n] w fun e w' => e = .returned (.int .i64 (unpE L n)) ∧ Df B w' y p g s (unpL L n) ∧ Off B TZ w w' := by
  obtain ⟨a, c, D, r, h1, h2, rfl⟩ := h
  have hl : D.length ≤ 1000 := by have := hok.few; unfold itsD at this; rw [List.length_map] at this; omega
  refine (refUnpin_call h1 hok.nd (fun x hx => Nat.le_trans (hok.pins x hx) (by omega)) n (by omega)).mono ?_
  rintro e w' ⟨rfl, ⟨D', q1, q2⟩, o⟩
  exact ⟨rfl, ⟨a, c, D', r, q1, h2.off o rfl rfl rfl, q2⟩, o.widen tz_82⟩
theorem df_yield {B : Nat} {w : World} {y p g : Nat} {s : Pl} {L : List It} {cap : Nat} (h : Df B w y p g s L) (hok : ShOk cap s L) (hc : cap ≤ 900) :
    Calls Try.prog 41 #[.pointer (some ⟨y, 0, none⟩)] w fun e w' => e = .returned (.bool (yieldB L)) ∧ Df B w' y p g (yieldP s L).1 (yieldP s L).2 ∧ Off B TZ w w' := by
  obtain ⟨a, c, D, r, h1, h2, rfl⟩ := h
  refine (refYield_call h1 h2 hok (by omega)).mono ?_
  rintro e w' ⟨rfl, ⟨D', r', q1, q2, q3⟩, o⟩
  exact ⟨rfl, ⟨a, c, D', r', q1, q2, q3⟩, h1.toZ tz_tr o⟩
end

/- The document's shelf: what is read; what somebody else does to the pool. -/
section
open Go.ChangeShapes Go.WideShapes Go.ChangeAt Go.RowKit
set_option linter.unusedVariables false
set_option linter.unusedSimpArgs false

theorem df_read {B : Nat} {w : World} {y p g : Nat} {s : Pl} {L : List It} {cap : Nat} (h : Df B w y p g s L) (hok : ShOk cap s L) (hc : cap ≤ 900) (n : ByteArray) :
    Calls Try.prog 12 #[.pointer (some ⟨y, 0, none⟩), .string n] w fun e w' => ∃ a' l' c', e = .returned (.tuple #[.slice a' l' c', .int .i64 (readE s L n)]) ∧ RowB w.heap.size w' a' l' c' (readV s L n) ∧ Below w.heap.size w w' := by
  obtain ⟨a, c, D, r, h1, h2, rfl⟩ := h
  exact refRead_call h1 h2 hok (by omega) n
theorem df_pins {B : Nat} {w : World} {y p g : Nat} {s : Pl} {L : List It} {cap : Nat} (h : Df B w y p g s L) (hok : ShOk cap s L) (hc : cap ≤ 900) (n : ByteArray) :
    Calls Try.prog 15 #[.pointer (some ⟨y, 0, none⟩), .string n] w fun e w' => e = .returned (.int .i64 (pinsZ L n)) ∧ w' = w := by
  obtain ⟨a, c, D, r, h1, h2, rfl⟩ := h
  exact refPins_call h1 n (by have := hok.few; unfold itsD at this; rw [List.length_map] at this; omega)
theorem df_resident {B : Nat} {w : World} {y p g : Nat} {s : Pl} {L : List It} {cap : Nat} (h : Df B w y p g s L) (hok : ShOk cap s L) (hc : cap ≤ 900) :
    Calls Try.prog 18 #[.pointer (some ⟨y, 0, none⟩)] w fun e w' => (∃ a' l' c', e = .returned (.slice a' l' c') ∧ RowT w.heap.size w' a' l' c' (names L)) ∧ Below w.heap.size w w' := by
  obtain ⟨a, c, D, r, h1, h2, rfl⟩ := h
  exact refResident_call h1 (by have := hok.few; unfold itsD at this; rw [List.length_map] at this; omega)
theorem df_room {B : Nat} {w : World} {y p g : Nat} {s : Pl} {L : List It} {cap : Nat} (h : Df B w y p g s L) (hok : ShOk cap s L) (hc : cap ≤ 900) :
    Calls Try.prog 20 #[.pointer (some ⟨y, 0, none⟩)] w fun e w' => e = .returned (.int .i64 (roomZ s L)) ∧ ∃ m, w' = w.drewN m := by
  obtain ⟨a, c, D, r, h1, h2, rfl⟩ := h
  exact refRoom_call h1 h2 hok (by omega)

/-- what somebody else does to the pool: the pages of the shelf's items stay -/
theorem ShOk.reserve {cap : Nat} {s : Pl} {L : List It} (h : ShOk cap s L) (k : Int) : ShOk cap (resS s k) L := by
  refine h.pool (h.good.resS k) ?_ (fun x hx z hz => ?_) <;> (unfold resS; split <;> rfl)
theorem item_page {cap : Nat} {s : Pl} {L : List It} (h : ShOk cap s L) {x : It} (hx : x ∈ L) {z : Nat} (hz : (z : Int) ∈ x.P) : (s.pg z).ow ≠ 0 ∧ (s.pg z).tag = plus x.nm := by
  by_cases hi : x.is = true
  · obtain ⟨l1, l2⟩ := h.on x hx hi
    have ho := (h.owned hx)
    have t := l2 (z : Int) hz
    rw [Int.toNat_natCast] at t
    have q := (ho.2 (z : Int) hz).2.2
    rw [Int.toNat_natCast] at q
    exact ⟨by rw [q]; decide, t⟩
  · have := (h.off x hx (by simpa using hi)).1
    rw [this] at hz
    cases hz
theorem ShOk.take {cap : Nat} {s : Pl} {L : List It} (h : ShOk cap s L) (t : ByteArray) (k : Int) : ShOk cap (takeS s t k) L := by
  refine h.pool (h.good.takeS (by decide) t k) ?_ (fun x hx z hz => ?_)
  · unfold takeS; split <;> rfl
  · obtain ⟨h1, _⟩ := item_page h hx hz
    unfold takeS
    split
    · show takeP s.pg t _ _ z = s.pg z
      unfold takeP
      rw [if_neg fun c => h1 c.2.1]
    · rfl

def tOther : ByteArray := ⟨#[111, 116, 104, 101, 114]⟩
theorem other_ne (n : ByteArray) : ¬ tOther = plus n := fun e => by
  have h1 : tOther.toList = (plus n).toList := by rw [e]
  rw [ByteArray.toList_eq, ByteArray.toList_eq] at h1
  have h2 : (plus n).data.toList = 43 :: n.data.toList := by simp [plus, ByteArray.data_append]
  rw [h2] at h1
  have h3 : tOther.data.toList = [111, 116, 104, 101, 114] := rfl
  rw [h3] at h1
  injection h1 with h4 _
  exact absurd h4 (by decide)
theorem ShOk.drop_ {cap : Nat} {s : Pl} {L : List It} (h : ShOk cap s L) (z : Int) (ht : tagZ s z = tOther) : ShOk cap (drS s z) L := by
  refine h.pool (h.good.drS z) ?_ (fun x hx j hj => ?_)
  · unfold drS; split <;> rfl
  · obtain ⟨_, h2⟩ := item_page h hx hj
    unfold drS
    split
    · next hu =>
      show upd s.pg z.toNat _ j = s.pg j
      refine upd_other _ _ _ _ (fun e => ?_)
      unfold tagZ at ht
      rw [if_pos hu, ← e, h2] at ht
      exact other_ne _ ht.symm
    · rfl
end

/- Somebody else's acts on the pool, on both sides. -/
section
open Go.ChangeShapes Go.WideShapes Go.ChangeAt Go.RowKit
set_option linter.unusedVariables false
set_option linter.unusedSimpArgs false

theorem sf_take {B : Nat} {w : World} {x mb b g : Nat} {a : Option Addr} {s : Pl} {L : List It} {cap : Nat} (h : Sf B w x mb b g a s L cap) (t : ByteArray) (k : Int) :
    Calls Try.prog 34 #[.pointer (some ⟨b, 0, none⟩), .string t, .int .i64 k] w fun e w' => ∃ a' l' c', e = .returned (.tuple #[.slice a' l' c', .int .i64 (takeE s t k)]) ∧ Sf B w' x mb b g a (takeS s t k) L cap ∧ Off B TP w w' := by
  have hlt := h.lt
  obtain ⟨A, c, h1, h2, h3⟩ := h
  refine (take_call h2 h3.good t k).mono ?_
  rintro e w' ⟨a', l', c', rfl, _, hp, o⟩
  exact ⟨a', l', c', rfl, ⟨A, c, h1.off o rfl rfl rfl rfl rfl, hp, h3.take t k⟩, o⟩
theorem sf_reserve {B : Nat} {w : World} {x mb b g : Nat} {a : Option Addr} {s : Pl} {L : List It} {cap : Nat} (h : Sf B w x mb b g a s L cap) (k : Int) :
    Calls Try.prog 39 #[.pointer (some ⟨b, 0, none⟩), .int .i64 k] w fun e w' => e = .returned (.int .i64 (resE s k)) ∧ Sf B w' x mb b g a (resS s k) L cap ∧ Off B TP w w' := by
  obtain ⟨A, c, h1, h2, h3⟩ := h
  refine (reserve_call h2 h3.good k).mono ?_
  rintro e w' ⟨rfl, hp, o⟩
  exact ⟨rfl, ⟨A, c, h1.off o rfl rfl rfl rfl rfl, hp, h3.reserve k⟩, o⟩
theorem sf_drop {B : Nat} {w : World} {x mb b g : Nat} {a : Option Addr} {s : Pl} {L : List It} {cap : Nat} (h : Sf B w x mb b g a s L cap) (z : Int) (ht : tagZ s z = tOther) :
    Calls Try.prog 37 #[.pointer (some ⟨b, 0, none⟩), .int .i64 z] w fun e w' => e = .returned (.int .i64 (shE s z)) ∧ Sf B w' x mb b g a (drS s z) L cap ∧ Off B TP w w' := by
  obtain ⟨A, c, h1, h2, h3⟩ := h
  refine (drop_call h2 h3.good (by decide) z).mono ?_
  rintro e w' ⟨rfl, hp, o⟩
  exact ⟨rfl, ⟨A, c, h1.off o rfl rfl rfl rfl rfl, hp, h3.drop_ z ht⟩, o⟩
theorem df_take {B : Nat} {w : World} {y p g : Nat} {s : Pl} {L : List It} {cap : Nat} (h : Df B w y p g s L) (hok : ShOk cap s L) (hB : B ≤ w.heap.size) (t : ByteArray) (k : Int) :
    Calls Try.prog 35 #[.pointer (some ⟨p, 0, none⟩), .string t, .int .i64 k] w fun e w' => ∃ a' l' c', e = .returned (.tuple #[.slice a' l' c', .int .i64 (takeE s t k)]) ∧ Df B w' y p g (takeS s t k) L ∧ Off B TR w w' := by
  obtain ⟨a, c, D, r, h1, h2, h3⟩ := h
  refine (refTakes_call h2 hB hok.good t k).mono ?_
  rintro e w' ⟨a', l', c', rfl, _, ⟨r', hp⟩, o⟩
  exact ⟨a', l', c', rfl, ⟨a, c, D, r', h1.off o rfl rfl rfl rfl, hp, h3⟩, o⟩
theorem df_reserve {B : Nat} {w : World} {y p g : Nat} {s : Pl} {L : List It} {cap : Nat} (h : Df B w y p g s L) (hok : ShOk cap s L) (k : Int) :
    Calls Try.prog 40 #[.pointer (some ⟨p, 0, none⟩), .int .i64 k] w fun e w' => e = .returned (.int .i64 (resE s k)) ∧ Df B w' y p g (resS s k) L ∧ Off B TR w w' := by
  obtain ⟨a, c, D, r, h1, h2, h3⟩ := h
  refine (refReserve_call h2 hok.good k).mono ?_
  rintro e w' ⟨rfl, hp, o⟩
  exact ⟨rfl, ⟨a, c, D, r, h1.off o rfl rfl rfl rfl, hp, h3⟩, o⟩
theorem df_drop {B : Nat} {w : World} {y p g : Nat} {s : Pl} {L : List It} {cap : Nat} (h : Df B w y p g s L) (hok : ShOk cap s L) (z : Int) :
    Calls Try.prog 38 #[.pointer (some ⟨p, 0, none⟩), .int .i64 z] w fun e w' => e = .returned (.int .i64 (shE s z)) ∧ Df B w' y p g (drS s z) L ∧ Off B TR w w' := by
  obtain ⟨a, c, D, r, h1, h2, h3⟩ := h
  refine (refDrop_call h2 hok.good (by decide) z).mono ?_
  rintro e w' ⟨rfl, hp, o⟩
  exact ⟨rfl, ⟨a, c, D, r, h1.off o rfl rfl rfl rfl, hp, h3⟩, o⟩
theorem df_tag {B : Nat} {w : World} {y p g : Nat} {s : Pl} {L : List It} {cap : Nat} (h : Df B w y p g s L) (hok : ShOk cap s L) (z : Int) :
    Calls Try.prog 36 #[.pointer (some ⟨p, 0, none⟩), .int .i64 z] w fun e w' => e = .returned (.string (tagZ s z)) ∧ w' = w := by
  obtain ⟨a, c, D, r, h1, h2, h3⟩ := h
  exact refTag_call h2 hok.good.n1 hok.good.ow0 z
theorem df_ptr {B : Nat} {w : World} {y p g : Nat} {s : Pl} {L : List It} (h : Df B w y p g s L) : w.cell? ⟨y, 0, none⟩ = some (.pointer (some ⟨p, 0, none⟩)) := by
  obtain ⟨a, c, D, r, h1, h2, h3⟩ := h
  exact h1.c0
theorem Df.offP {B : Nat} {w : World} {y p g : Nat} {s : Pl} {L : List It} {B' : Nat} (h : Df B w y p g s L) {w' : World} (o : Off B' TP w w') : Df B w' y p g s L := by
  obtain ⟨a, c, D, r, h1, h2, h3⟩ := h
  exact ⟨a, c, D, r, h1.off o rfl rfl rfl rfl, h2.off o rfl rfl rfl, h3⟩
theorem Sf.offR {B : Nat} {w w' : World} {x mb b g : Nat} {a : Option Addr} {s : Pl} {L : List It} {cap : Nat} {B' : Nat} (h : Sf B w x mb b g a s L cap) (o : Off B' TR w w') : Sf B w' x mb b g a s L cap := h.off o rfl rfl rfl rfl rfl rfl rfl
end

/- Both shelves over one value: acts. -/
section
open Go.ChangeShapes Go.WideShapes Go.ChangeAt Go.RowKit
set_option linter.unusedVariables false
set_option linter.unusedSimpArgs false

/-- what is below B, and every act that lies in a variable, is as it was -/
def Kpt (B : Nat) (u w : World) : Prop := Below B u w ∧ ∀ i q, BoxO u i q → BoxO w i q
/-- both shelves over one value -/
def Bt (B : Nat) (u : World) (x mb b g y p g' : Nat) (s : Pl) (L : List It) (cap : Nat) (w : World) : Prop := (∃ a, Sf B w x mb b g a s L cap) ∧ Df B w y p g' s L ∧ Kpt B u w
theorem BoxO.off {B : Nat} {T : TypeId → Bool} {w w' : World} {ob : Nat} {q : OpV} (h : BoxO w ob q) (o : Off B T w w') (hT : T 39 = false) : BoxO w' ob q := h.keep (o.row h.row hT)
theorem box_prog {B : Nat} {w w' : World} {x mb b g : Nat} {a : Option Addr} {s : Pl} {L : List It} {cap : Nat} (hs : Sf B w x mb b g a s L cap) (o : OffS B TS (SS mb a) w w') {ob : Nat} {q : OpV} (hq : BoxO w ob q) : BoxO w' ob q := hq.keep (o.row hq.row rfl (fun hS => by
  rcases hS with e | e
  · have := hs.mapLt.2.2
    rw [← e, hq.row.type] at this
    cases this
  · obtain ⟨_, _, m', r'⟩ := hs.ordLt e
    exact r'.ne hq.row (by decide) rfl))

theorem bt_remove {B : Nat} {u w : World} {x mb b g y p g' : Nat} {s : Pl} {L : List It} {cap : Nat} (h : Bt B u x mb b g y p g' s L cap w) (hc : cap ≤ 800) {ob : Nat} {o : OpV} (hb : BoxO w ob o) (n : ByteArray) (hn : n.size ≤ maxLen) :
    Calls Try.prog 26 #[.pointer (some ⟨x, 0, none⟩), .string n] w fun e W1 => e = .returned (.int .i64 (remE L n)) ∧ BoxO W1 ob o ∧ Calls Try.prog 31 #[.pointer (some ⟨y, 0, none⟩), .string n] W1 fun e W2 => e = .returned (.int .i64 (remE L n)) ∧ BoxO W2 ob o ∧ Bt B u x mb b g y p g' (remS s L n) (remL L n) (cap + 1) W2 := by
  obtain ⟨⟨a, hs⟩, hd, hu⟩ := h
  refine (sf_remove hs (by omega) n hn).mono ?_
  rintro e W1 ⟨rfl, s1, o1⟩
  have b1 := box_prog hs o1 hb
  have hB : B ≤ W1.heap.size := Nat.le_trans hs.lt o1.size
  refine ⟨rfl, b1, (df_remove (hd.prog hs o1) hs.ok (by omega) hB n).mono ?_⟩
  rintro e W2 ⟨rfl, d2, o2⟩
  exact ⟨rfl, b1.off o2 rfl, ⟨⟨a, (s1.doc o2).mono (Nat.le_succ _)⟩, d2, ⟨(hu.1.trans (o1.below hs.lt)).trans (o2.below hB), fun i q hq => (box_prog hs o1 (hu.2 i q hq)).off o2 rfl⟩⟩⟩

theorem bt_pin {B : Nat} {u w : World} {x mb b g y p g' : Nat} {s : Pl} {L : List It} {cap : Nat} (h : Bt B u x mb b g y p g' s L cap w) (hc : cap ≤ 800) {ob : Nat} {o : OpV} (hb : BoxO w ob o) (n : ByteArray) (hn : n.size ≤ maxLen) :
    Calls Try.prog 24 #[.pointer (some ⟨x, 0, none⟩), .string n] w fun e W1 => e = .returned (.int .i64 (pinE s L n)) ∧ BoxO W1 ob o ∧ Calls Try.prog 32 #[.pointer (some ⟨y, 0, none⟩), .string n] W1 fun e W2 => e = .returned (.int .i64 (pinE s L n)) ∧ BoxO W2 ob o ∧ Bt B u x mb b g y p g' (pinP s L n).1 (pinP s L n).2 (cap + 1) W2 := by
  obtain ⟨⟨a, hs⟩, hd, hu⟩ := h
  refine (sf_pin hs (by omega) n hn).mono ?_
  rintro e W1 ⟨rfl, ⟨a', s1, _⟩, o1⟩
  have b1 := box_prog hs o1 hb
  have hB : B ≤ W1.heap.size := Nat.le_trans hs.lt o1.size
  refine ⟨rfl, b1, (df_pin (hd.prog hs o1) hs.ok (by omega) hB n).mono ?_⟩
  rintro e W2 ⟨rfl, d2, o2⟩
  exact ⟨rfl, b1.off o2 rfl, ⟨⟨a', s1.doc o2⟩, d2, ⟨(hu.1.trans (o1.below hs.lt)).trans (o2.below hB), fun i q hq => (box_prog hs o1 (hu.2 i q hq)).off o2 rfl⟩⟩⟩

theorem bt_unpin {B : Nat} {u w : World} {x mb b g y p g' : Nat} {s : Pl} {L : List It} {cap : Nat} (h : Bt B u x mb b g y p g' s L cap w) (hc : cap ≤ 800) {ob : Nat} {o : OpV} (hb : BoxO w ob o) (n : ByteArray) (hn : n.size ≤ maxLen) :
    Calls Try.prog 25 #[.pointer (some ⟨x, 0, none⟩), .string n] w fun e W1 => e = .returned (.int .i64 (unpE L n)) ∧ BoxO W1 ob o ∧ Calls Try.prog 33 #[.pointer (some ⟨y, 0, none⟩), .string n] W1 fun e W2 => e = .returned (.int .i64 (unpE L n)) ∧ BoxO W2 ob o ∧ Bt B u x mb b g y p g' s (unpL L n) (cap + 1) W2 := by
  obtain ⟨⟨a, hs⟩, hd, hu⟩ := h
  refine (sf_unpin hs (by omega) n hn).mono ?_
  rintro e W1 ⟨rfl, s1, o1⟩
  have b1 := box_prog hs o1 hb
  have hB : B ≤ W1.heap.size := Nat.le_trans hs.lt o1.size
  refine ⟨rfl, b1, (df_unpin (hd.prog hs o1) hs.ok (by omega) n).mono ?_⟩
  rintro e W2 ⟨rfl, d2, o2⟩
  exact ⟨rfl, b1.off o2 rfl, ⟨⟨a, (s1.doc o2).mono (Nat.le_succ _)⟩, d2, ⟨(hu.1.trans (o1.below hs.lt)).trans (o2.below hB), fun i q hq => (box_prog hs o1 (hu.2 i q hq)).off o2 rfl⟩⟩⟩

theorem bt_yield {B : Nat} {u w : World} {x mb b g y p g' : Nat} {s : Pl} {L : List It} {cap : Nat} (h : Bt B u x mb b g y p g' s L cap w) (hc : cap ≤ 800) {ob : Nat} {o : OpV} (hb : BoxO w ob o) :
    Calls Try.prog 28 #[.pointer (some ⟨x, 0, none⟩)] w fun e W1 => e = .returned (.bool (yieldB L)) ∧ BoxO W1 ob o ∧ Calls Try.prog 41 #[.pointer (some ⟨y, 0, none⟩)] W1 fun e W2 => e = .returned (.bool (yieldB L)) ∧ BoxO W2 ob o ∧ Bt B u x mb b g y p g' (yieldP s L).1 (yieldP s L).2 (cap + 1) W2 := by
  obtain ⟨⟨a, hs⟩, hd, hu⟩ := h
  refine (sf_yield hs (by omega)).mono ?_
  rintro e W1 ⟨rfl, s1, o1⟩
  have b1 := box_prog hs o1 hb
  have hB : B ≤ W1.heap.size := Nat.le_trans hs.lt o1.size
  refine ⟨rfl, b1, (df_yield (hd.prog hs o1) hs.ok (by omega)).mono ?_⟩
  rintro e W2 ⟨rfl, d2, o2⟩
  exact ⟨rfl, b1.off o2 rfl, ⟨⟨a, (s1.doc o2).mono (Nat.le_succ _)⟩, d2, ⟨(hu.1.trans (o1.below hs.lt)).trans (o2.below hB), fun i q hq => (box_prog hs o1 (hu.2 i q hq)).off o2 rfl⟩⟩⟩
end

/- Both shelves over one value: Put, and what somebody else does to the pools. -/
section
open Go.ChangeShapes Go.WideShapes Go.ChangeAt Go.RowKit
set_option linter.unusedVariables false
set_option linter.unusedSimpArgs false

theorem Bt.below {B : Nat} {u w : World} {x mb b g y p g' : Nat} {s : Pl} {L : List It} {cap : Nat} (h : Bt B u x mb b g y p g' s L cap w) {w' : World} (hb : Below w.heap.size w w') : Bt B u x mb b g y p g' s L cap w' := by
  obtain ⟨⟨a, hs⟩, hd, hu⟩ := h
  exact ⟨⟨a, hs.below hb⟩, hd.below hb, hu.1.trans (hb.mono hs.lt), fun i q hq => (hu.2 i q hq).below hb⟩
theorem Bt.drewN {B : Nat} {u w : World} {x mb b g y p g' : Nat} {s : Pl} {L : List It} {cap : Nat} (h : Bt B u x mb b g y p g' s L cap w) (m : Nat) : Bt B u x mb b g y p g' s L cap (w.drewN m) := h.below (below_drew (Below.refl _ _) ⟨m, rfl⟩)
theorem Bt.ptr {B : Nat} {u w : World} {x mb b g y p g' : Nat} {s : Pl} {L : List It} {cap : Nat} (h : Bt B u x mb b g y p g' s L cap w) : w.cell? ⟨y, 0, none⟩ = some (.pointer (some ⟨p, 0, none⟩)) := df_ptr h.2.1
theorem bt_put {B : Nat} {u w : World} {x mb b g y p g' : Nat} {s : Pl} {L : List It} {cap : Nat} (h : Bt B u x mb b g y p g' s L cap w) (hc : cap ≤ 800) {u0 : World} (hu0 : Below B u0 u) (hBu : u0.heap.size ≤ B) {ob : Nat} {o : OpV} (hb : BoxO w ob o) (hok : OpOk u0 o) (h2 : o.W.n ≤ 2000) (ca : Option Addr) (cc : Nat) (hr : Reads .i8 w ca o.W.n o.zw) (hn : ca = none → cc = 0) :
    Calls Try.prog 23 #[.pointer (some ⟨x, 0, none⟩), .string o.t, .slice ca o.W.n cc] w fun e W1 => e = .returned (.int .i64 (putE L o.t)) ∧ BoxO W1 ob o ∧ Calls Try.prog 30 #[.pointer (some ⟨y, 0, none⟩), .string o.t, .slice o.W.a o.W.n o.W.c] W1 fun e W2 => e = .returned (.int .i64 (putE L o.t)) ∧ BoxO W2 ob o ∧ Bt B u x mb b g y p g' s (putL L o.t o.zw) (cap + 1) W2 := by
  obtain ⟨⟨a, hs⟩, hd, hu⟩ := h
  refine (sf_put hs (by omega) o.t hok.sz ca o.W.n cc o.zw hr hn h2).mono ?_
  rintro e W1 ⟨rfl, s1, o1⟩
  have b1 := box_prog hs o1 hb
  have hB : B ≤ W1.heap.size := Nat.le_trans hs.lt o1.size
  have hu1 := hu.1.trans (o1.below hs.lt)
  have hZ : Reads .i8 W1 o.W.a o.W.n o.zw := hok.rw_.carry fun q v hq => ((hu0.trans hu1).cell (Nat.lt_of_lt_of_le (World.block_lt_of_cell? u0 q hq) hBu)).trans hq
  refine ⟨rfl, b1, (df_put (hd.prog hs o1) hs.ok (by omega) hB o.t hok.sz o.W.a o.W.n o.W.c o.zw hZ h2).mono ?_⟩
  rintro e W2 ⟨rfl, d2, o2⟩
  exact ⟨rfl, b1.off o2 rfl, ⟨⟨a, s1.doc o2⟩, d2, ⟨hu1.trans (o2.below hB), fun i q hq => (box_prog hs o1 (hu.2 i q hq)).off o2 rfl⟩⟩⟩
theorem bt_take {B : Nat} {u w : World} {x mb b g y p g' : Nat} {s : Pl} {L : List It} {cap : Nat} (h : Bt B u x mb b g y p g' s L cap w) (t : ByteArray) (k : Int) {ob : Nat} {o : OpV} (hb : BoxO w ob o) :
    Calls Try.prog 34 #[.pointer (some ⟨b, 0, none⟩), .string t, .int .i64 k] w fun e W1 => ∃ a1 l1 c1, e = .returned (.tuple #[.slice a1 l1 c1, .int .i64 (takeE s t k)]) ∧ BoxO W1 ob o ∧ W1.cell? ⟨y, 0, none⟩ = some (.pointer (some ⟨p, 0, none⟩)) ∧ ∀ m, Calls Try.prog 35 #[.pointer (some ⟨p, 0, none⟩), .string t, .int .i64 k] (W1.drewN m) fun e W2 => ∃ a2 l2 c2, e = .returned (.tuple #[.slice a2 l2 c2, .int .i64 (takeE s t k)]) ∧ BoxO W2 ob o ∧ Bt B u x mb b g y p g' (takeS s t k) L (cap + 1) W2 := by
  obtain ⟨⟨a, hs⟩, hd, hu⟩ := h
  refine (sf_take hs t k).mono ?_
  rintro e W1 ⟨a1, l1, c1, rfl, s1, o1⟩
  have b1 := hb.off o1 rfl
  have hB : B ≤ W1.heap.size := Nat.le_trans hs.lt o1.size
  refine ⟨a1, l1, c1, rfl, b1, df_ptr (hd.offP o1), fun m => (df_take ((hd.offP o1).drewN m) hs.ok hB t k).mono ?_⟩
  rintro e W2 ⟨a2, l2, c2, rfl, d2, o2⟩
  have o2' : Off B TR W1 W2 := Off.of_drawn o2 rfl
  exact ⟨a2, l2, c2, rfl, b1.off o2' rfl, ⟨⟨a, (s1.offR o2').mono (Nat.le_succ _)⟩, d2, ⟨(hu.1.trans (o1.below hs.lt)).trans (o2'.below hB), fun i q hq => ((hu.2 i q hq).off o1 rfl).off o2' rfl⟩⟩⟩
theorem bt_reserve {B : Nat} {u w : World} {x mb b g y p g' : Nat} {s : Pl} {L : List It} {cap : Nat} (h : Bt B u x mb b g y p g' s L cap w) (k : Int) {ob : Nat} {o : OpV} (hb : BoxO w ob o) :
    Calls Try.prog 39 #[.pointer (some ⟨b, 0, none⟩), .int .i64 k] w fun e W1 => e = .returned (.int .i64 (resE s k)) ∧ BoxO W1 ob o ∧ W1.cell? ⟨y, 0, none⟩ = some (.pointer (some ⟨p, 0, none⟩)) ∧ Calls Try.prog 40 #[.pointer (some ⟨p, 0, none⟩), .int .i64 k] W1 fun e W2 => e = .returned (.int .i64 (resE s k)) ∧ BoxO W2 ob o ∧ Bt B u x mb b g y p g' (resS s k) L (cap + 1) W2 ∧ W2.cell? ⟨y, 0, none⟩ = some (.pointer (some ⟨p, 0, none⟩)) := by
  obtain ⟨⟨a, hs⟩, hd, hu⟩ := h
  refine (sf_reserve hs k).mono ?_
  rintro e W1 ⟨rfl, s1, o1⟩
  have b1 := hb.off o1 rfl
  have hB : B ≤ W1.heap.size := Nat.le_trans hs.lt o1.size
  refine ⟨rfl, b1, df_ptr (hd.offP o1), (df_reserve (hd.offP o1) hs.ok k).mono ?_⟩
  rintro e W2 ⟨rfl, d2, o2⟩
  exact ⟨rfl, b1.off o2 rfl, ⟨⟨a, (s1.offR o2).mono (Nat.le_succ _)⟩, d2, ⟨(hu.1.trans (o1.below hs.lt)).trans (o2.below hB), fun i q hq => ((hu.2 i q hq).off o1 rfl).off o2 rfl⟩⟩, df_ptr d2⟩
theorem bt_drop {B : Nat} {u w : World} {x mb b g y p g' : Nat} {s : Pl} {L : List It} {cap : Nat} (h : Bt B u x mb b g y p g' s L cap w) (z : Int) (ht : tagZ s z = tOther) {ob : Nat} {o : OpV} (hb : BoxO w ob o) :
    Calls Try.prog 37 #[.pointer (some ⟨b, 0, none⟩), .int .i64 z] w fun e W1 => e = .returned (.int .i64 (shE s z)) ∧ BoxO W1 ob o ∧ W1.cell? ⟨y, 0, none⟩ = some (.pointer (some ⟨p, 0, none⟩)) ∧ Calls Try.prog 38 #[.pointer (some ⟨p, 0, none⟩), .int .i64 z] W1 fun e W2 => e = .returned (.int .i64 (shE s z)) ∧ BoxO W2 ob o ∧ Bt B u x mb b g y p g' (drS s z) L (cap + 1) W2 ∧ W2.cell? ⟨y, 0, none⟩ = some (.pointer (some ⟨p, 0, none⟩)) := by
  obtain ⟨⟨a, hs⟩, hd, hu⟩ := h
  refine (sf_drop hs z ht).mono ?_
  rintro e W1 ⟨rfl, s1, o1⟩
  have b1 := hb.off o1 rfl
  have hB : B ≤ W1.heap.size := Nat.le_trans hs.lt o1.size
  refine ⟨rfl, b1, df_ptr (hd.offP o1), (df_drop (hd.offP o1) hs.ok z).mono ?_⟩
  rintro e W2 ⟨rfl, d2, o2⟩
  exact ⟨rfl, b1.off o2 rfl, ⟨⟨a, (s1.offR o2).mono (Nat.le_succ _)⟩, d2, ⟨(hu.1.trans (o1.below hs.lt)).trans (o2.below hB), fun i q hq => ((hu.2 i q hq).off o1 rfl).off o2 rfl⟩⟩, df_ptr d2⟩
theorem bt_tag {B : Nat} {u w : World} {x mb b g y p g' : Nat} {s : Pl} {L : List It} {cap : Nat} (h : Bt B u x mb b g y p g' s L cap w) (z : Int) (m : Nat) :
    Calls Try.prog 36 #[.pointer (some ⟨p, 0, none⟩), .int .i64 z] (w.drewN m) fun e w' => e = .returned (.string (tagZ s z)) ∧ w' = w.drewN m := by
  obtain ⟨⟨a, hs⟩, hd, hu⟩ := h
  exact df_tag (hd.drewN m) hs.ok z
end

end Go.Proofs.Ytfggkkhehaafcaa
