/- The program's shelf: contracts over what holds of it. -/
import Derived.Test.YtfggkkhehaafcaaRows
import Derived.Test.YtfggkkhehaafcaaPages
import Derived.Test.YtfggkkhehaafcaaView
import Derived.Test.YtfggkkhehaafcaaOwn
import Derived.Test.YtfggkkhehaafcaaReadsP
import Derived.Test.YtfggkkhehaafcaaReadsQ
import Derived.Test.YtfggkkhehaafcaaLeast
import Derived.Test.YtfggkkhehaafcaaLays
import Derived.Test.YtfggkkhehaafcaaGoods
import Derived.Test.YtfggkkhehaafcaaPlain
import Derived.Test.YtfggkkhehaafcaaLies
import Derived.Test.YtfggkkhehaafcaaCopies
import Derived.Test.YtfggkkhehaafcaaNeeds
import Derived.Test.YtfggkkhehaafcaaPlace
import Derived.Test.YtfggkkhehaafcaaPlaces
import Derived.Test.YtfggkkhehaafcaaFetch
import Derived.Test.YtfggkkhehaafcaaFetched
import Derived.Test.YtfggkkhehaafcaaRelease
import Derived.Test.YtfggkkhehaafcaaMapV
import Derived.Test.YtfggkkhehaafcaaShPlain
import Derived.Test.YtfggkkhehaafcaaShActs
import Derived.Test.YtfggkkhehaafcaaShAt
import Derived.Test.YtfggkkhehaafcaaIndex
import Derived.Test.YtfggkkhehaafcaaDelete
import Derived.Test.YtfggkkhehaafcaaShRd
import Derived.Test.YtfggkkhehaafcaaShTurn
import Derived.Test.YtfggkkhehaafcaaShRel
import Derived.Test.YtfggkkhehaafcaaShLoose
import Derived.Test.YtfggkkhehaafcaaShRoom
import Derived.Test.YtfggkkhehaafcaaShRem
import Derived.Test.YtfggkkhehaafcaaShRead
import Derived.Test.YtfggkkhehaafcaaShPut
import Derived.Test.YtfggkkhehaafcaaShBring
import Derived.Test.YtfggkkhehaafcaaShPin
import Derived.WalkKit
import Derived.ProofKit
import Derived.OpenShut
import Derived.Below
import Derived.WalkLawsBesides
import Derived.Deep.QuietTactic
import Derived.BigQuiet
import Derived.Maps.OwnSet
import Derived.OwnWalk
namespace Go.Proofs.Ytfggkkhehaafcaa
open Go.ChangeShapes Go.WideShapes Go.ChangeAt Go.RowKit
set_option linter.unusedVariables false
set_option linter.unusedSimpArgs false

/-- the program's shelf and its pool in memory, and what holds of them -/
def Sf (B : Nat) (w : World) (x mb b g : Nat) (a : Option Addr) (s : Pl) (L : List It) (cap : Nat) : Prop :=
  ∃ A c, ShAt B w x mb b A a c (names L) L cap ∧ PoolAt B w b g s ∧ ShOk cap s L

theorem Sf.ok {B : Nat} {w : World} {x mb b g : Nat} {a : Option Addr} {s : Pl} {L : List It} {cap : Nat} (h : Sf B w x mb b g a s L cap) : ShOk cap s L := by
  obtain ⟨A, c, _, _, h3⟩ := h
  exact h3
theorem Sf.pool {B : Nat} {w : World} {x mb b g : Nat} {a : Option Addr} {s : Pl} {L : List It} {cap : Nat} (h : Sf B w x mb b g a s L cap) : PoolAt B w b g s := by
  obtain ⟨A, c, _, h2, _⟩ := h
  exact h2
theorem Sf.below {B : Nat} {w w' : World} {x mb b g : Nat} {a : Option Addr} {s : Pl} {L : List It} {cap : Nat} (h : Sf B w x mb b g a s L cap) (hb : Below w.heap.size w w') : Sf B w' x mb b g a s L cap := by
  obtain ⟨A, c, h1, h2, h3⟩ := h
  exact ⟨A, c, h1.below hb, h2.below hb, h3⟩
theorem Sf.drewN {B : Nat} {w : World} {x mb b g : Nat} {a : Option Addr} {s : Pl} {L : List It} {cap : Nat} (h : Sf B w x mb b g a s L cap) (m : Nat) : Sf B (w.drewN m) x mb b g a s L cap := by
  obtain ⟨A, c, h1, h2, h3⟩ := h
  exact ⟨A, c, h1.drewN m, h2.drewN m, h3⟩
theorem Sf.off {B B' : Nat} {T : TypeId → Bool} {w w' : World} {x mb b g : Nat} {a : Option Addr} {s : Pl} {L : List It} {cap : Nat} (h : Sf B w x mb b g a s L cap) (o : Off B' T w w') (h1 : T 71 = false) (h2 : T 80 = false) (h3 : T 59 = false) (h4 : T 3 = false) (h5 : T 9 = false) (h6 : T 65 = false) (h7 : T 93 = false) : Sf B w' x mb b g a s L cap := by
  obtain ⟨A, c, q1, q2, q3⟩ := h
  exact ⟨A, c, q1.off o h1 h2 h3 h4 h5, q2.off o h6 h7, q3⟩
theorem Sf.mono {B : Nat} {w : World} {x mb b g : Nat} {a : Option Addr} {s : Pl} {L : List It} {cap cap' : Nat} (h : Sf B w x mb b g a s L cap) (hc : cap ≤ cap') : Sf B w x mb b g a s L cap' := by
  obtain ⟨A, c, h1, h2, h3⟩ := h
  exact ⟨A, c, { h1 with map := h1.map.mono hc }, h2, h3.mono hc⟩
theorem Sf.lt {B : Nat} {w : World} {x mb b g : Nat} {a : Option Addr} {s : Pl} {L : List It} {cap : Nat} (h : Sf B w x mb b g a s L cap) : B ≤ w.heap.size := by
  have := h.pool.top.lt
  have := h.pool.Bb
  omega
theorem Sf.ordLt {B : Nat} {w : World} {x mb b g : Nat} {a : Option Addr} {s : Pl} {L : List It} {cap : Nat} (h : Sf B w x mb b g a s L cap) {k : Nat} (hk : blkOf a k) : B ≤ k ∧ k < w.heap.size ∧ ∃ m, Row 9 w k m := by
  obtain ⟨A, c, h1, _, _⟩ := h
  obtain ⟨q1, m, r⟩ := own_blk h1.ord.own hk
  exact ⟨q1, r.lt, m, r⟩
theorem Sf.mapLt {B : Nat} {w : World} {x mb b g : Nat} {a : Option Addr} {s : Pl} {L : List It} {cap : Nat} (h : Sf B w x mb b g a s L cap) : B ≤ mb ∧ mb < w.heap.size ∧ typeOf w mb = none := by
  obtain ⟨A, c, h1, _, _⟩ := h
  exact ⟨h1.Bm, h1.map.lt, h1.map.type⟩
theorem Sf.keep {B : Nat} {w w' : World} {x mb b g : Nat} {a : Option Addr} {s : Pl} {L : List It} {cap : Nat} (h : Sf B w x mb b g a s L cap) (hk : ∀ i t, i < w.heap.size → typeOf w i = some t → (T14 t || TP t) = true → w'.heap[i]? = w.heap[i]?) (hm : w'.heap[mb]? = w.heap[mb]?) (ho : ∀ i, blkOf a i → w'.heap[i]? = w.heap[i]?) : Sf B w' x mb b g a s L cap := by
  obtain ⟨A, c, h1, h2, h3⟩ := h
  exact ⟨A, c, h1.keep (fun i t hi ht hT => hk i t hi ht (by rw [hT]; rfl)) hm ho, h2.of_blocks (hk b 65 h2.top.lt h2.top.type rfl) (hk g 93 h2.row.lt h2.row.type rfl), h3⟩
theorem blk_SS {mb : Nat} {a : Option Addr} : ∀ k, blkOf a k → SS mb a k := fun _ h => .inr h


theorem notMap {B : Nat} {w : World} {x mb b : Nat} {A : ByteArray → Nat} {a : Option Addr} {c : Nat} {O : List ByteArray} {L : List It} {N : Nat} (h : ShAt B w x mb b A a c O L N) {t : TypeId} {k m : Nat} (r : Row t w k m) : ¬ k = mb := h.map.notRow r
/-- behind Put the pool is as it was -/
theorem sf_put {B : Nat} {w : World} {x mb b g : Nat} {a : Option Addr} {s : Pl} {L : List It} {cap : Nat} (h : Sf B w x mb b g a s L cap) (hc : cap ≤ 900) (n : ByteArray) (hn : n.size ≤ maxLen) (wa : Option Addr) (l wc : Nat) (W : List Int) (hW : Reads .i8 w wa l W) (hwc : wa = none → wc = 0) (hl : l ≤ 2000) :
    Calls Try.prog 23 #[.pointer (some ⟨x, 0, none⟩), .string n, .slice wa l wc] w fun e w' => e = .returned (.int .i64 (putE L n)) ∧ Sf B w' x mb b g a s (putL L n W) (cap + 1) ∧ OffS B TS (SS mb a) w w' := by
  obtain ⟨A, c, h1, h2, h3⟩ := h
  refine (put14_call h1 (by omega) n hn wa l wc W hW hwc hl).mono ?_
  rintro e w' ⟨rfl, ⟨A', r1⟩, r2⟩
  have hp : PoolAt B w' b g s := h2.of_blocks (r2.row h2.top rfl (notMap h1 h2.top)) (r2.row h2.row rfl (notMap h1 h2.row))
  exact ⟨rfl, ⟨A', c, r1, hp, h3.put n W (by rw [hW.len]; exact hl) hW.wf_mem⟩, r2.mono (fun _ _ => rfl) (fun _ h => .inl h)⟩
theorem sf_unpin {B : Nat} {w : World} {x mb b g : Nat} {a : Option Addr} {s : Pl} {L : List It} {cap : Nat} (h : Sf B w x mb b g a s L cap) (hc : cap ≤ 900) (n : ByteArray) (hn : n.size ≤ maxLen) :
    Calls Try.prog 25 #[.pointer (some ⟨x, 0, none⟩), .string n] w fun e w' => e = .returned (.int .i64 (unpE L n)) ∧ Sf B w' x mb b g a s (unpL L n) cap ∧ OffS B TS (SS mb a) w w' := by
  obtain ⟨A, c, h1, h2, h3⟩ := h
  refine (unpin_call h1 h3.nd (fun y hy => Nat.le_trans (h3.pins y hy) (by omega)) n hn).mono ?_
  rintro e w' ⟨rfl, r1, r2⟩
  exact ⟨rfl, ⟨A, c, r1, h2.off r2 rfl rfl, h3.unpin n⟩, (r2.toS _).mono (fun t ht => by simp only [TS, Bool.or_eq_false_iff] at ht; exact ht.2) (fun _ h => h)⟩
theorem sf_remove {B : Nat} {w : World} {x mb b g : Nat} {a : Option Addr} {s : Pl} {L : List It} {cap : Nat} (h : Sf B w x mb b g a s L cap) (hc : cap ≤ 900) (n : ByteArray) (hn : n.size ≤ maxLen) :
    Calls Try.prog 26 #[.pointer (some ⟨x, 0, none⟩), .string n] w fun e w' => e = .returned (.int .i64 (remE L n)) ∧ Sf B w' x mb b g a (remS s L n) (remL L n) cap ∧ OffS B TS (SS mb a) w w' := by
  obtain ⟨A, c, h1, h2, h3⟩ := h
  refine (remove_call h1 h2 h3 (by omega) n hn).mono ?_
  rintro e w' ⟨rfl, r1, r2, r3⟩
  exact ⟨rfl, ⟨A, c, r1, r2, h3.remove n⟩, r3⟩
theorem sf_yield {B : Nat} {w : World} {x mb b g : Nat} {a : Option Addr} {s : Pl} {L : List It} {cap : Nat} (h : Sf B w x mb b g a s L cap) (hc : cap ≤ 900) :
    Calls Try.prog 28 #[.pointer (some ⟨x, 0, none⟩)] w fun e w' => e = .returned (.bool (yieldB L)) ∧ Sf B w' x mb b g a (yieldP s L).1 (yieldP s L).2 cap ∧ OffS B TS (SS mb a) w w' := by
  obtain ⟨A, c, h1, h2, h3⟩ := h
  refine (yield_call h1 h2 h3 (by omega)).mono ?_
  rintro e w' ⟨rfl, r1, r2, r3⟩
  exact ⟨rfl, ⟨A, c, r1, r2, h3.yield⟩, r3.mono (fun _ h => h) blk_SS⟩
theorem sf_pin {B : Nat} {w : World} {x mb b g : Nat} {a : Option Addr} {s : Pl} {L : List It} {cap : Nat} (h : Sf B w x mb b g a s L cap) (hc : cap ≤ 900) (n : ByteArray) (hn : n.size ≤ maxLen) :
    Calls Try.prog 24 #[.pointer (some ⟨x, 0, none⟩), .string n] w fun e w' => e = .returned (.int .i64 (pinE s L n)) ∧ (∃ a', Sf B w' x mb b g a' (pinP s L n).1 (pinP s L n).2 (cap + 1) ∧ ∀ k, blkOf a' k → blkOf a k ∨ w.heap.size ≤ k) ∧ OffS B TS (SS mb a) w w' := by
  obtain ⟨A, c, h1, h2, h3⟩ := h
  refine (pin14_call h1 h2 h3 (by omega) n hn).mono ?_
  rintro e w' ⟨rfl, ⟨a', c', r1, r4⟩, r2, r3⟩
  exact ⟨rfl, ⟨a', ⟨A, c', { r1 with map := r1.map.mono (Nat.le_succ _) }, r2, h3.pin n⟩, r4⟩, r3.mono (fun _ h => h) blk_SS⟩
theorem sf_read {B : Nat} {w : World} {x mb b g : Nat} {a : Option Addr} {s : Pl} {L : List It} {cap : Nat} (h : Sf B w x mb b g a s L cap) (hc : cap ≤ 900) (n : ByteArray) (hn : n.size ≤ maxLen) :
    Calls Try.prog 11 #[.pointer (some ⟨x, 0, none⟩), .string n] w fun e w' => ∃ a' l' c', e = .returned (.tuple #[.slice a' l' c', .int .i64 (readE s L n)]) ∧ RowB w.heap.size w' a' l' c' (readV s L n) ∧ Below w.heap.size w w' := by
  obtain ⟨A, c, h1, h2, h3⟩ := h
  exact read14_call h1 h2 h3 (by omega) n hn
theorem sf_pins {B : Nat} {w : World} {x mb b g : Nat} {a : Option Addr} {s : Pl} {L : List It} {cap : Nat} (h : Sf B w x mb b g a s L cap) (n : ByteArray) (hn : n.size ≤ maxLen) :
    Calls Try.prog 14 #[.pointer (some ⟨x, 0, none⟩), .string n] w fun e w' => e = .returned (.int .i64 (pinsZ L n)) ∧ w' = w := by
  obtain ⟨A, c, h1, h2, h3⟩ := h
  exact pins_call h1 n hn
theorem sf_resident {B : Nat} {w : World} {x mb b g : Nat} {a : Option Addr} {s : Pl} {L : List It} {cap : Nat} (h : Sf B w x mb b g a s L cap) (hc : cap ≤ 900) :
    Calls Try.prog 17 #[.pointer (some ⟨x, 0, none⟩)] w fun e w' => (∃ a' l' c', e = .returned (.slice a' l' c') ∧ RowT w.heap.size w' a' l' c' (names L)) ∧ Below w.heap.size w w' := by
  obtain ⟨A, c, h1, h2, h3⟩ := h
  exact resident_call h1 (by have := names_len L; have := h3.few; omega)
theorem sf_room {B : Nat} {w : World} {x mb b g : Nat} {a : Option Addr} {s : Pl} {L : List It} {cap : Nat} (h : Sf B w x mb b g a s L cap) (hc : cap ≤ 900) :
    Calls Try.prog 19 #[.pointer (some ⟨x, 0, none⟩)] w fun e w' => e = .returned (.int .i64 (roomZ s L)) ∧ Below w.heap.size w w' := by
  obtain ⟨A, c, h1, h2, h3⟩ := h
  exact room_call h1 h2 h3 (by omega)
theorem shok_new {n : Nat} (h0 : 1 ≤ n) (h1 : n ≤ 256) : ShOk 0 (newPl n) [] :=
  ⟨good_new n 1 h0 h1, List.Pairwise.nil, fun x hx => (by cases hx), fun x hx => (by cases hx), fun x hx => (by cases hx), fun x hx => (by cases hx), List.Pairwise.nil, fun x hx => (by cases hx), Nat.le_refl _⟩
theorem sf_new {w : World} {B b g n : Nat} (hp : PoolAt B w b g (newPl n)) (h0 : 1 ≤ n) (h1 : n ≤ 256) :
    Calls Try.prog 9 #[.pointer (some ⟨b, 0, none⟩)] w fun e w' => e = .returned (.pointer (some ⟨w.heap.size + 1, 0, none⟩)) ∧ Sf B w' (w.heap.size + 1) w.heap.size b g none (newPl n) [] 0 ∧ Below w.heap.size w w' := by
  have hB := hp.lt
  refine (new14_call hp).mono ?_
  rintro e w' ⟨rfl, r1, r2⟩
  have r3 := { r1 with Bx := Nat.le_trans hB r1.Bx, Bm := Nat.le_trans hB r1.Bm, ord := RowT.nil B w', lot := fun it hi => (by cases hi) : ShAt B w' (w.heap.size + 1) w.heap.size b (fun _ => 0) none 0 [] [] 0 }
  exact ⟨rfl, ⟨_, _, r3, hp.below r2, shok_new h0 h1⟩, r2⟩

/-- two rows of texts that are the same -/
theorem sameT_call {w : World} {a : Option Addr} {l c : Nat} {a' : Option Addr} {l' c' : Nat} {ts : List ByteArray} (h0 : ReadT w a l ts) (h1 : ReadT w a' l' ts) (hl : l ≤ 1000000) :
    Calls Try.prog 16 #[.slice a l c, .slice a' l' c'] w fun e w' => e = .returned (.bool true) ∧ ∃ m, w' = w.drewN m := by
  obtain rfl : l = l' := h0.len.symm.trans h1.len
  have H0 := hidden_ h0
  have H1 := hidden_ h1
  clear h0 h1
  go_enter Try.func16, Try.ntmps16
  go_wp2
  go_loopw [5] (fun i wr => ∃ k : Nat, k ≤ l ∧ i = .int .i64 k ∧ Hid (∃ m, wr = w.drewN m)) (fun i _ => l - (intOf i).toNat)
  case atStart => exact ⟨0, Nat.zero_le _, rfl, hidden_ ⟨0, rfl⟩⟩
  case round =>
    obtain ⟨k, hk, rfl, hw⟩ := hrel
    obtain ⟨m, hm⟩ := hw.out
    by_cases hlt : k < l
    · obtain ⟨y, rfl⟩ := H0.out.some_ (by omega)
      obtain ⟨z, rfl⟩ := H1.out.some_ (by omega)
      have cy : wr.cell? (y.add k) = some (.string (ts.getD k noText)) := by rw [hm]; exact H0.out.cell y rfl k hlt
      have cz : wr.cell? (z.add k) = some (.string (ts.getD k noText)) := by rw [hm]; exact H1.out.cell z rfl k hlt
      obtain ⟨t, et⟩ : ∃ t, ts.getD k noText = t := ⟨_, rfl⟩
      rw [et] at cy cz
      have HM := hidden_ hm
      have q := text_same (a := t) (b := t) rfl
      clear et hm hw
      go_wp2
      go_quiet (fail)
      go_wp2
      go_roundw
      case rel => exact ⟨k + 1, by omega, by go_num, hidden_ ⟨_, by rw [HM.out, World.drewN_drewN]⟩⟩
      case measure => simp [intOf]; omega
    · have e : k = l := by omega
      subst e
      have HM := hidden_ hm
      clear hm hw
      go_wp2
      go_ret
      exact ⟨rfl, m, HM.out⟩

end Go.Proofs.Ytfggkkhehaafcaa
