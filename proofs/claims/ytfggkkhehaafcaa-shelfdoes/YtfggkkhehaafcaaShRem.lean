/- What the program's shelf does: Resident, New, Unpin, Remove. -/
import Derived.Test.YtfggkkhehaafcaaRows
import Derived.Test.YtfggkkhehaafcaaPages
import Derived.Test.YtfggkkhehaafcaaView
import Derived.Test.YtfggkkhehaafcaaOwn
import Derived.Test.YtfggkkhehaafcaaReadsP
import Derived.Test.YtfggkkhehaafcaaReadsQ
import Derived.Test.YtfggkkhehaafcaaLeast
import Derived.Test.YtfggkkhehaafcaaLays
import Derived.Test.YtfggkkhehaafcaaGoods
import Derived.Test.YtfggkkhehaafcaaPlain
import Derived.Test.YtfggkkhehaafcaaLies
import Derived.Test.YtfggkkhehaafcaaCopies
import Derived.Test.YtfggkkhehaafcaaRelease
import Derived.Test.YtfggkkhehaafcaaMapV
import Derived.Test.YtfggkkhehaafcaaShPlain
import Derived.Test.YtfggkkhehaafcaaShActs
import Derived.Test.YtfggkkhehaafcaaShAt
import Derived.Test.YtfggkkhehaafcaaIndex
import Derived.Test.YtfggkkhehaafcaaDelete
import Derived.Test.YtfggkkhehaafcaaShRd
import Derived.Test.YtfggkkhehaafcaaShTurn
import Derived.Test.YtfggkkhehaafcaaShRel
import Derived.Test.YtfggkkhehaafcaaShLoose
import Derived.Test.YtfggkkhehaafcaaShRoom
import Derived.WalkKit
import Derived.ProofKit
import Derived.OpenShut
import Derived.Below
import Derived.WalkLawsBesides
import Derived.Deep.QuietTactic
import Derived.BigQuiet
import Derived.Maps.OwnSet
import Derived.Maps.AppendAt
import Derived.OwnWalk
namespace Go.Proofs.Ytfggkkhehaafcaa
open Go.ChangeShapes Go.WideShapes Go.ChangeAt Go.RowKit
set_option linter.unusedVariables false
set_option linter.unusedSimpArgs false

theorem resident_call {B : Nat} {w : World} {x mb b : Nat} {A : ByteArray → Nat} {a : Option Addr} {c : Nat} {O : List ByteArray} {L : List It} {N : Nat} (h : ShAt B w x mb b A a c O L N) (hl : O.length ≤ 1000000) :
    Calls Try.prog 17 #[.pointer (some ⟨x, 0, none⟩)] w fun e w' => (∃ a' l' c', e = .returned (.slice a' l' c') ∧ RowT w.heap.size w' a' l' c' O) ∧ Below w.heap.size w w' := by
  have c2 := h.c2
  have k := cloneT_call h.ord.reads h.ord.capMax.2.2 hl
  obtain ⟨l, el⟩ : ∃ l, O.length = l := ⟨_, rfl⟩
  rw [el] at k c2
  clear h el hl
  go_enter Try.func17, Try.ntmps17
  go_wp2_with (first | (go_at_call 46; refine k.mono ?_; rintro e w1 ⟨⟨a', c', rfl, hr⟩, hb⟩))
  go_ret
  exact ⟨⟨_, _, _, rfl, hr⟩, hb⟩

theorem new14_call {B : Nat} {w : World} {b g : Nat} {s : Pl} (hp : PoolAt B w b g s) :
    Calls Try.prog 9 #[.pointer (some ⟨b, 0, none⟩)] w fun e w' => e = .returned (.pointer (some ⟨w.heap.size + 1, 0, none⟩)) ∧ ShAt w.heap.size w' (w.heap.size + 1) w.heap.size b (fun _ => 0) none 0 [] [] 0 ∧ Below w.heap.size w w' := by
  have hmm := @run_makeMap Try.prog
  have key : Hid (ShAt w.heap.size ((w.alloc (.map #[] 0)).alloc (.cells #[.pointer (some ⟨b, 0, none⟩), .map (some w.heap.size), .slice none 0 0] 71)) (w.heap.size + 1) w.heap.size b (fun _ => 0) none 0 [] [] 0 ∧ Below w.heap.size w ((w.alloc (.map #[] 0)).alloc (.cells #[.pointer (some ⟨b, 0, none⟩), .map (some w.heap.size), .slice none 0 0] 71))) := hidden_ (by
    obtain ⟨W, eW⟩ : ∃ W, w.alloc (.map #[] 0) = W := ⟨_, rfl⟩
    have hs : W.heap.size = w.heap.size + 1 := by rw [← eW]; simp
    have hm := MapV.made w (.pointer none)
    rw [eW] at hm ⊢
    have hb : Below w.heap.size w W := by rw [← eW]; exact below_new (Below.refl _ _) _
    have hn := heap_alloc_new W (.cells #[.pointer (some ⟨b, 0, none⟩), .map (some w.heap.size), .slice none 0 0] 71)
    rw [← hs]
    refine ⟨⟨by omega, Nat.le_refl _, ⟨_, hn, rfl⟩, ?_, ?_, ?_, RowT.nil _ _, ?_, fun it hi => (by cases hi), fun i hi => (by cases hi)⟩, below_new hb _⟩
    · unfold World.cell?; rw [hn]; rfl
    · unfold World.cell?; rw [hn]; rfl
    · unfold World.cell?; rw [hn]; rfl
    · exact hm.kept (heap_alloc_old W _ (by omega)))
  clear hp
  go_enter Try.func9, Try.ntmps9
  go_wp2
  go_ret
  exact ⟨rfl, key.out.1, key.out.2⟩

theorem unpin_call {B : Nat} {w : World} {x mb b : Nat} {A : ByteArray → Nat} {a : Option Addr} {c : Nat} {L : List It} {N : Nat} (h : ShAt B w x mb b A a c (names L) L N) (hd : Nd L) (hpn : ∀ y ∈ L, y.pins ≤ 1000000) (n : ByteArray) (hn : n.size ≤ maxLen) :
    Calls Try.prog 25 #[.pointer (some ⟨x, 0, none⟩), .string n] w fun e w' => e = .returned (.int .i64 (unpE L n)) ∧ ShAt B w' x mb b A a c (names (unpL L n)) (unpL L n) N ∧ Off B (fun t => t == 80) w w' := by
  have c1 := h.c1
  have hk := h.lookW n hn
  cases hi : look L n with
  | none =>
    have e0 : unpE L n = 25 := by unfold unpE; rw [hi]
    have e1 : unpL L n = L := by unfold unpL; rw [if_neg (by rw [e0]; decide)]
    rw [e0, e1]
    rw [ptr_none hi] at hk
    have HH := hidden_ h
    clear h hi hn e0 e1 hpn hd
    go_enter Try.func25, Try.ntmps25
    go_wp2
    go_ret
    exact ⟨rfl, HH.out, Off.refl _ _ _⟩
  | some it =>
    rw [ptr_some hi] at hk
    obtain ⟨hm, hnm⟩ := look_some hi
    have hl := h.lot it hm
    have q := hl.c2
    have hp1 := hpn it hm
    by_cases hp : it.pins = 0
    · have e0 : unpE L n = 27 := by unfold unpE; rw [hi]; simp only; rw [if_pos hp]
      have e1 : unpL L n = L := by unfold unpL; rw [if_neg (by rw [e0]; decide)]
      rw [e0, e1]
      have HH := hidden_ h
      rw [hnm, hp] at q
      obtain ⟨k, ek⟩ : ∃ k, A n = k := ⟨_, rfl⟩
      rw [ek] at q hk
      clear h hi hn e0 e1 hpn hd hm hnm hl hp ek hp1
      go_enter Try.func25, Try.ntmps25
      go_wp2
      go_ret
      exact ⟨rfl, HH.out, Off.refl _ _ _⟩
    · have e0 : unpE L n = 0 := by unfold unpE; rw [hi]; simp only; rw [if_neg hp]
      have e1 : unpL L n = chg less n L := by unfold unpL; rw [if_pos e0]
      rw [e0, e1, names_chg less less_nm (fun _ => rfl)]
      have key := h.setLot hd hm 2 (.int .i64 ((it.pins - 1 : Nat) : Int)) less less_nm (hl.setPins (it.pins - 1))
      have ko : Off B (fun t => t == 80) w (w.setCell ⟨A it.nm, 2, none⟩ (.int .i64 ((it.pins - 1 : Nat) : Int))) := Off.set hl.top hl.Bk rfl 2 _
      have f := hl.top.open_ 2
      rw [hnm] at q key ko f
      obtain ⟨k, ek⟩ : ∃ k, A n = k := ⟨_, rfl⟩
      rw [ek] at q hk key ko f
      obtain ⟨p, ep⟩ : ∃ p, it.pins = p + 1 := ⟨it.pins - 1, by omega⟩
      rw [ep] at q key ko hp1
      rw [Nat.add_sub_cancel] at key ko
      have HH := hidden_ (And.intro key ko)
      have q' : ((p : Int) + 1 == 0) = false := by simp; omega
      have q'' : w.cell? ⟨k, 2, none⟩ = some (.int .i64 ((p : Int) + 1)) := by rw [q]; simp
      clear h hi hn e0 e1 hpn hd hm hnm hl hp ek key ko q ep
      go_enter Try.func25, Try.ntmps25
      go_wp2
      go_ret
      refine ⟨rfl, ?_, ?_⟩
      · have := HH.out.1
        simpa using this
      · have := HH.out.2
        simpa using this

theorem remove_call {cap g : Nat} {s : Pl} {B : Nat} {w : World} {x mb b : Nat} {A : ByteArray → Nat} {a : Option Addr} {c : Nat} {L : List It} {N : Nat} (h : ShAt B w x mb b A a c (names L) L N) (hp : PoolAt B w b g s) (hok : ShOk cap s L) (hcap : cap ≤ 1000) (n : ByteArray) (hn : n.size ≤ maxLen) :
    Calls Try.prog 26 #[.pointer (some ⟨x, 0, none⟩), .string n] w fun e w' => e = .returned (.int .i64 (remE L n)) ∧ ShAt B w' x mb b A a c (names (remL L n)) (remL L n) N ∧ PoolAt B w' b g (remS s L n) ∧ OffS B TS (SS mb a) w w' := by
  have c1 := h.c1
  have hk := h.lookW n hn
  cases hi : look L n with
  | none =>
    have e0 : remE L n = 25 := by unfold remE; rw [hi]
    have e1 : remL L n = L := by unfold remL; rw [if_neg (by rw [e0]; decide)]
    have e2 : remS s L n = s := by unfold remS; rw [hi]
    rw [e0, e1, e2]
    rw [ptr_none hi] at hk
    have HH := hidden_ (And.intro h hp)
    clear h hi hn e0 e1 e2 hp hok hcap
    go_enter Try.func26, Try.ntmps26
    go_wp2
    go_ret
    exact ⟨rfl, HH.out.1, HH.out.2, OffS.refl _ _ _ _⟩
  | some it =>
    rw [ptr_some hi] at hk
    obtain ⟨hm, hnm⟩ := look_some hi
    have hl := h.lot it hm
    have q := hl.c2
    rw [hnm] at q
    obtain ⟨k, ek⟩ : ∃ k, A n = k := ⟨_, rfl⟩
    rw [ek] at q hk
    by_cases hp0 : 0 < it.pins
    · have e0 : remE L n = 27 := by unfold remE; rw [hi]; simp only; rw [if_pos hp0]
      have e1 : remL L n = L := by unfold remL; rw [if_neg (by rw [e0]; decide)]
      have e2 : remS s L n = s := by unfold remS; rw [hi]; simp only; rw [if_pos hp0]
      rw [e0, e1, e2]
      have HH := hidden_ (And.intro h hp)
      obtain ⟨p, ep⟩ : ∃ p, it.pins = p := ⟨_, rfl⟩
      rw [ep] at q hp0
      have d : (0 : Int) < (p : Int) := by omega
      clear h hi hn e0 e1 e2 hp hok hcap hm hnm hl ek ep
      go_enter Try.func26, Try.ntmps26
      go_wp2
      go_ret
      exact ⟨rfl, HH.out.1, HH.out.2, OffS.refl _ _ _ _⟩
    · have hp1 : it.pins = 0 := by omega
      have e0 : remE L n = 0 := by unfold remE; rw [hi]; simp only; rw [if_neg hp0]
      have e1 : remL L n = rem L n := by unfold remL; rw [if_pos e0]
      have e2 : remS s L n = relS s it.P := by unfold remS; rw [hi]; simp only; rw [if_neg hp0]
      rw [e0, e1, e2]
      rw [hp1] at q
      have kR := release14_call h hp hok hcap hi hn
      have hx := h.top
      have key : Hid (∀ w1, ShAt B w1 x mb b A a c (names (rel L n)) (rel L n) N → PoolAt B w1 b g (relS s it.P) → OffS B TS (blkOf a) w w1 → w1.cell? ⟨x, 1, none⟩ = some (.map (some mb)) ∧ ∃ w2, (∀ ty, (Builtin.delete_ #[69, 9] ty #[.map (some mb), .string n]).run Try.prog w1 = .ok (.tuple #[]) w2) ∧
          ShAt B w2 x mb b A a c (names (rem L n)) (rem L n) N ∧ PoolAt B w2 b g (relS s it.P) ∧ OffS B TS (SS mb a) w w2) := hidden_ (fun w1 h1 p1 o1 => by
        refine ⟨h1.c1, ?_⟩
        obtain ⟨w2, hr, hm2, ht⟩ := h1.map.drop 69 76 Try.underlying69 n hn 0
        refine ⟨w2, fun ty => ?_, ?_, ?_, ?_⟩
        · obtain ⟨w2', hr', _, _⟩ := h1.map.drop 69 76 Try.underlying69 n hn ty
          have : w2' = w2 := by
            have e : (Builtin.delete_ #[69, 9] ty #[.map (some mb), .string n]).run Try.prog w1 = (Builtin.delete_ #[69, 9] 0 #[.map (some mb), .string n]).run Try.prog w1 := rfl
            rw [hr', hr] at e
            injection e
          rw [← this]
          exact hr'
        · have := h1.del n hm2 ht
          rw [rem_rel] at this
          rw [names_rem, ← names_rel]
          exact this
        · exact p1.of_blocks (ht.grown.block b p1.top.lt (by simpa using h1.map.notRow p1.top)) (ht.grown.block g p1.row.lt (by simpa using h1.map.notRow p1.row))
        · refine (o1.mono (fun _ h => h) (fun _ h => .inr h)).then_ ⟨ht.grown.os, ht.grown.tape, ht.grown.output, ht.grown.size, fun i hi' hc => ht.grown.block i hi' ?_⟩
          intro e
          have e' : i = mb := by simpa using e
          subst e'
          rcases hc with hc | hc
          · have := h1.Bm; omega
          · exact hc.1 (.inl rfl))
      clear h hi hn e0 e1 e2 hp hok hcap hm hnm hl ek hp0 hp1 hx
      go_enter Try.func26, Try.ntmps26
      go_wp2_with (first | (go_at_call 57; refine kR.mono ?_; rintro e w1 ⟨rfl, r1, r2, r3⟩; obtain ⟨q1, w2, q2, q3, q4, q5⟩ := key.out w1 r1 r2 r3; have HQ := hidden_ (And.intro q3 (And.intro q4 q5)); clear q3 q4 q5 r1 r2 r3 key kR))
      go_ret
      exact ⟨rfl, HQ.out.1, HQ.out.2.1, HQ.out.2.2⟩

end Go.Proofs.Ytfggkkhehaafcaa
