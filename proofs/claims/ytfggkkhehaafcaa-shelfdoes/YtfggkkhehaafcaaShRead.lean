/- What is read from the program's shelf. -/
import Derived.Test.YtfggkkhehaafcaaRows
import Derived.Test.YtfggkkhehaafcaaPages
import Derived.Test.YtfggkkhehaafcaaView
import Derived.Test.YtfggkkhehaafcaaOwn
import Derived.Test.YtfggkkhehaafcaaReadsP
import Derived.Test.YtfggkkhehaafcaaReadsQ
import Derived.Test.YtfggkkhehaafcaaLeast
import Derived.Test.YtfggkkhehaafcaaLays
import Derived.Test.YtfggkkhehaafcaaGoods
import Derived.Test.YtfggkkhehaafcaaPlain
import Derived.Test.YtfggkkhehaafcaaLies
import Derived.Test.YtfggkkhehaafcaaCopies
import Derived.Test.YtfggkkhehaafcaaFetch
import Derived.Test.YtfggkkhehaafcaaFetched
import Derived.Test.YtfggkkhehaafcaaRelease
import Derived.Test.YtfggkkhehaafcaaMapV
import Derived.Test.YtfggkkhehaafcaaShPlain
import Derived.Test.YtfggkkhehaafcaaShActs
import Derived.Test.YtfggkkhehaafcaaShAt
import Derived.Test.YtfggkkhehaafcaaIndex
import Derived.Test.YtfggkkhehaafcaaDelete
import Derived.Test.YtfggkkhehaafcaaShRd
import Derived.Test.YtfggkkhehaafcaaShTurn
import Derived.Test.YtfggkkhehaafcaaShRel
import Derived.Test.YtfggkkhehaafcaaShLoose
import Derived.Test.YtfggkkhehaafcaaShRoom
import Derived.WalkKit
import Derived.ProofKit
import Derived.OpenShut
import Derived.Below
import Derived.WalkLawsBesides
import Derived.Deep.QuietTactic
import Derived.BigQuiet
import Derived.Maps.OwnSet
import Derived.Deep.RegionWith
namespace Go.Proofs.Ytfggkkhehaafcaa
open Go.ChangeShapes Go.WideShapes Go.ChangeAt Go.RowKit
set_option linter.unusedVariables false
set_option linter.unusedSimpArgs false

theorem rowB_nil0 {B : Nat} {w : World} {a : Option Addr} {l c : Nat} {zs : List Int} (h : RowB B w a l c zs) : a = none → c = 0 := fun e => by
  rcases h.own.2 with ⟨h1, _⟩ | ⟨g, cap, cur, h1, _⟩
  · simp only [Value.slice.injEq] at h1; omega
  · simp only [Value.slice.injEq] at h1; rw [e] at h1; cases h1.1

set_option maxHeartbeats 4000000 in
theorem read14_call {cap g : Nat} {s : Pl} {B : Nat} {w : World} {x mb b : Nat} {A : ByteArray → Nat} {a : Option Addr} {c : Nat} {L : List It} {N : Nat} (h : ShAt B w x mb b A a c (names L) L N) (hp : PoolAt B w b g s) (hok : ShOk cap s L) (hcap : cap ≤ 1000) (n : ByteArray) (hn : n.size ≤ maxLen) :
    Calls Try.prog 11 #[.pointer (some ⟨x, 0, none⟩), .string n] w fun e w' => ∃ a' l' c', e = .returned (.tuple #[.slice a' l' c', .int .i64 (readE s L n)]) ∧ RowB w.heap.size w' a' l' c' (readV s L n) ∧ Below w.heap.size w w' := by
  have c0 := h.c0
  have c1 := h.c1
  have hk := h.lookW n hn
  have nl := names_len L
  have few := hok.few
  unfold readE readV
  cases hi : look L n with
  | none =>
    rw [ptr_none hi] at hk
    clear h hi hn hp hok hcap
    go_enter Try.func11, Try.ntmps11
    go_wp2
    go_ret2
    exact ⟨_, _, _, rfl, RowB.nil _ _, Below.refl _ _⟩
  | some it =>
    rw [ptr_some hi] at hk
    obtain ⟨hm, hnm⟩ := look_some hi
    have kI := isResident_call h n (by omega)
    simp only
    by_cases hs : it.is = true
    · rw [inT_yes (by rw [← hnm]; exact (names_is hok.nd hm).2 hs)] at kI
      rw [if_pos hs, if_pos hs]
      obtain ⟨wa, wc, lc0, wrow⟩ := (h.lot it hm).c0
      obtain ⟨pa, pc, lc1, prow⟩ := (h.lot it hm).c1
      have hw := (hok.wts it hm).1
      have hpl := hok.pageLen hm
      have kF := fetched_call (hp.drewN 1) hok.good pa it.P.length pc it.P (prow.reads.drewN 1) (by omega) (fun y hy => by
        obtain ⟨_, m, r⟩ := own_blk prow.own ⟨y, hy, rfl⟩
        exact r.lt) (it.W.length : Int) (by omega) (by omega)
      rw [hnm] at lc0 lc1
      obtain ⟨k, ek⟩ : ∃ k, A n = k := ⟨_, rfl⟩
      rw [ek] at lc0 lc1 hk
      obtain ⟨m1, em1⟩ : ∃ m1, it.W.length = m1 := ⟨_, rfl⟩
      obtain ⟨m2, em2⟩ : ∃ m2, it.P.length = m2 := ⟨_, rfl⟩
      rw [em1] at lc0 kF hw ⊢
      rw [em2] at lc1 kF hpl
      obtain ⟨E, eE⟩ : ∃ E, fetchE s it.P (m1 : Int) = E := ⟨_, rfl⟩
      obtain ⟨V, eV⟩ : ∃ V, fetchR s it.P (m1 : Int) = V := ⟨_, rfl⟩
      rw [eE, eV] at kF ⊢
      clear h hi hn hp hok hcap hm hnm hs wrow prow ek em1 em2 eE eV nl few
      go_enter Try.func11, Try.ntmps11
      go_wp2_with (first | (go_at_call 42; refine kI.mono ?_; rintro e w' ⟨rfl, h1⟩; obtain rfl := h1.symm))
      go_region_with (first | (go_at_call 43; refine kF.mono ?_; rintro e w1 ⟨a', l', c', rfl, r1, r2, r3⟩; clear kF r2))
      all_goals
        go_wp2
        go_ret2
        exact ⟨_, _, _, rfl, r1, ⟨r3.os, r3.tape, r3.output, r3.size, r3.block⟩⟩
    · have hs' : it.is = false := by simpa using hs
      rw [inT_no (by rw [← hnm]; exact fun e => hs ((names_is hok.nd hm).1 e))] at kI
      rw [if_neg hs, if_neg hs]
      clear h hi hn hp hok hcap hm hnm hs hs' nl few
      go_enter Try.func11, Try.ntmps11
      go_wp2_with (first | (go_at_call 42; refine kI.mono ?_; rintro e w' ⟨rfl, h1⟩; obtain rfl := h1.symm))
      go_ret2
      exact ⟨_, _, _, rfl, RowB.nil _ _, Below.refl _ _⟩

end Go.Proofs.Ytfggkkhehaafcaa
