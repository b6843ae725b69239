/- Weights are released from the program's shelf. -/
import Derived.Test.YtfggkkhehaafcaaRows
import Derived.Test.YtfggkkhehaafcaaPages
import Derived.Test.YtfggkkhehaafcaaView
import Derived.Test.YtfggkkhehaafcaaOwn
import Derived.Test.YtfggkkhehaafcaaReadsP
import Derived.Test.YtfggkkhehaafcaaReadsQ
import Derived.Test.YtfggkkhehaafcaaLeast
import Derived.Test.YtfggkkhehaafcaaLays
import Derived.Test.YtfggkkhehaafcaaGoods
import Derived.Test.YtfggkkhehaafcaaPlain
import Derived.Test.YtfggkkhehaafcaaRelease
import Derived.Test.YtfggkkhehaafcaaMapV
import Derived.Test.YtfggkkhehaafcaaShPlain
import Derived.Test.YtfggkkhehaafcaaShActs
import Derived.Test.YtfggkkhehaafcaaShAt
import Derived.Test.YtfggkkhehaafcaaIndex
import Derived.Test.YtfggkkhehaafcaaDelete
import Derived.Test.YtfggkkhehaafcaaShRd
import Derived.Test.YtfggkkhehaafcaaShTurn
import Derived.WalkKit
import Derived.ProofKit
import Derived.OpenShut
import Derived.Below
import Derived.WalkLawsBesides
import Derived.Deep.QuietTactic
import Derived.BigQuiet
import Derived.Maps.OwnSet
import Derived.Deep.RegionWith
namespace Go.Proofs.Ytfggkkhehaafcaa
open Go.ChangeShapes Go.WideShapes Go.ChangeAt Go.RowKit
set_option linter.unusedVariables false
set_option linter.unusedSimpArgs false

/-- weights are released: their pages are dropped, their name leaves the order of pinning -/
theorem ShAt.setP {B : Nat} {w : World} {x mb b : Nat} {A : ByteArray → Nat} {a : Option Addr} {c : Nat} {O : List ByteArray} {L : List It} {N : Nat} (h : ShAt B w x mb b A a c O L N) (hn : Nd L) {it : It} (hi : it ∈ L) : ShAt B (w.setCell ⟨A it.nm, 1, none⟩ (.slice none 0 0)) x mb b A a c O (chg gone it.nm L) N :=
  h.setLot hn hi 1 _ gone gone_nm (by
    have q := (h.lot it hi).setPages (RowI.nil B w)
    exact ⟨q.Bk, q.top, q.c0, q.c1, q.c2⟩)

theorem release14_call {cap g : Nat} {s : Pl} {B : Nat} {w : World} {x mb b : Nat} {A : ByteArray → Nat} {a : Option Addr} {c : Nat} {L : List It} {N : Nat} (h : ShAt B w x mb b A a c (names L) L N) (hp : PoolAt B w b g s) (hok : ShOk cap s L) (hcap : cap ≤ 1000) {n : ByteArray} {it : It} (hl : look L n = some it) (hsz : n.size ≤ maxLen) :
    Calls Try.prog 57 #[.pointer (some ⟨x, 0, none⟩), .string n] w fun e w' => e = .returned (.tuple #[]) ∧ ShAt B w' x mb b A a c (names (rel L n)) (rel L n) N ∧ PoolAt B w' b g (relS s it.P) ∧ OffS B TS (blkOf a) w w' := by
  obtain ⟨hi, hnm⟩ := look_some hl
  have c0 := h.c0
  have c1 := h.c1
  have hlt := h.lot it hi
  rw [hnm] at hlt
  obtain ⟨pa, pc, lc1, hrow⟩ := hlt.c1
  have hlen := hok.pageLen hi
  have hk := h.lookW n hsz
  rw [ptr_some hl] at hk
  obtain ⟨k, ek⟩ : ∃ k, A n = k := ⟨_, rfl⟩
  rw [ek] at hk hlt lc1
  have kR := release_call (hp.drewN 1) hok.good (by decide) pa it.P.length pc it.P (fun w' o => (hrow.off (Off.of_drawn o rfl) rfl).reads) (by omega)
  obtain ⟨l, el⟩ : ∃ l, it.P.length = l := ⟨_, rfl⟩
  rw [el] at kR lc1
  have nl := names_len L
  have few := hok.few
  have key : Hid (∀ w1, PoolAt B w1 b g (relS s it.P) → Off B TP (w.drewN 1) w1 → (∃ v, w1.cell? ⟨k, 1, none⟩ = some v) ∧ w1.frozen? ⟨k, 1, none⟩ = false ∧
      (∀ w2, w1.setCell ⟨k, 1, none⟩ (.slice none 0 0) = w2 → Calls Try.prog 56 #[.pointer (some ⟨x, 0, none⟩), .string n] w2 fun e w' => e = .returned (.tuple #[]) ∧ ShAt B w' x mb b A a c (names (rel L n)) (rel L n) N ∧ PoolAt B w' b g (relS s it.P) ∧ OffS B TS (blkOf a) w w')) := hidden_ (fun w1 hp1 ho1 => by
    have ho : Off B TP w w1 := Off.of_drawn ho1 rfl
    have h1 := h.off ho rfl rfl rfl rfl rfl
    have q := h1.lot it hi
    have t := q.top
    obtain ⟨pa', pc', lc, _⟩ := q.c1
    rw [hnm, ek] at t lc
    refine ⟨⟨_, lc⟩, t.open_ 1, ?_⟩
    rintro w2 rfl
    have h2 := h1.setP hok.nd hi
    rw [hnm, ek] at h2
    have o2 : OffS B TS (blkOf a) w (w1.setCell ⟨k, 1, none⟩ (.slice none 0 0)) := (((ho.toS (blkOf a)).mono TP_TS (fun _ h => h)).then_ (OffS.setT t (by rw [← ek, ← hnm]; exact q.Bk) rfl 1 _))
    have p2 : PoolAt B (w1.setCell ⟨k, 1, none⟩ (.slice none 0 0)) b g (relS s it.P) := hp1.of_blocks (Below.heap_setCell w1 _ _ b (hp1.top.ne t (by decide))) (Below.heap_setCell w1 _ _ g (hp1.row.ne t (by decide)))
    by_cases hm : n ∈ names L
    · refine (leave_yes h2 (names_nd hok.nd) n hm (by omega)).mono ?_
      rintro e w' ⟨rfl, r1, r2⟩
      exact ⟨rfl, by rw [names_rel]; exact r1, p2.offT r2 h2.ord rfl rfl, o2.then_ (r2.mono T71_TS (fun _ h => h))⟩
    · refine (leave_no h2 n hm (by omega)).mono ?_
      rintro e w' ⟨rfl, rfl⟩
      refine ⟨rfl, ?_, p2, o2⟩
      rw [names_rel, List.filter_eq_self.2 (fun u hu => by have q : ¬ u = n := fun e => hm (by rw [← e]; exact hu); simp [q])]
      exact h2)
  clear hlt hrow hok hcap hlen h hp hl hi hnm ek el nl few hsz
  go_enter Try.func57, Try.ntmps57
  go_wp2
  go_region_with (first | (go_at_call 79; refine kR.mono ?_; rintro e w1 ⟨rfl, hp1, ho1⟩; obtain ⟨⟨v1, q1⟩, f1, q2⟩ := key.out w1 hp1 ho1; clear key kR hp1 ho1))
  all_goals
    go_wp2_with (first | (go_at_call 56; refine (q2 _ rfl).mono ?_; rintro e w2 ⟨rfl, r1, r2, r3⟩))
    refine bodyPost_end (results_none rfl _ _ _) rfl ?_
    exact ⟨rfl, r1, r2, r3⟩

end Go.Proofs.Ytfggkkhehaafcaa
