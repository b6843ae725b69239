/- What the program's shelf tells: who is resident, who is not held. -/
import Derived.Test.YtfggkkhehaafcaaRows
import Derived.Test.YtfggkkhehaafcaaPages
import Derived.Test.YtfggkkhehaafcaaView
import Derived.Test.YtfggkkhehaafcaaOwn
import Derived.Test.YtfggkkhehaafcaaReadsP
import Derived.Test.YtfggkkhehaafcaaReadsQ
import Derived.Test.YtfggkkhehaafcaaLeast
import Derived.Test.YtfggkkhehaafcaaLays
import Derived.Test.YtfggkkhehaafcaaGoods
import Derived.Test.YtfggkkhehaafcaaMapV
import Derived.Test.YtfggkkhehaafcaaShPlain
import Derived.Test.YtfggkkhehaafcaaShActs
import Derived.Test.YtfggkkhehaafcaaShAt
import Derived.Test.YtfggkkhehaafcaaIndex
import Derived.WalkKit
import Derived.ProofKit
import Derived.OpenShut
import Derived.Below
import Derived.WalkLawsBesides
import Derived.Deep.QuietTactic
import Derived.BigQuiet
import Derived.Maps.OwnSet
namespace Go.Proofs.Ytfggkkhehaafcaa
open Go.ChangeShapes Go.WideShapes Go.ChangeAt Go.RowKit
set_option linter.unusedVariables false
set_option linter.unusedSimpArgs false

theorem zero76 (w : World) : (zeroValue 76).run Try.prog w = .ok (.pointer none) w := by go_simp
theorem ShAt.lookW {B : Nat} {w : World} {x mb b : Nat} {A : ByteArray → Nat} {a : Option Addr} {c : Nat} {O : List ByteArray} {L : List It} {N : Nat} (h : ShAt B w x mb b A a c O L N) (n : ByteArray) (hn : n.size ≤ maxLen) : (Instr.lookup 69 (.map (some mb)) (.string n) false).run Try.prog w = .ok (ptrOf L A n) w :=
  h.map.look 69 76 Try.underlying69 (zero76 w) n hn
theorem ptr_none {L : List It} {A : ByteArray → Nat} {n : ByteArray} (h : look L n = none) : ptrOf L A n = .pointer none := by unfold ptrOf; rw [h]
theorem ptr_some {L : List It} {A : ByteArray → Nat} {n : ByteArray} {it : It} (h : look L n = some it) : ptrOf L A n = .pointer (some ⟨A n, 0, none⟩) := by unfold ptrOf; rw [h]

theorem isResident_call {B : Nat} {w : World} {x mb b : Nat} {A : ByteArray → Nat} {a : Option Addr} {c : Nat} {O : List ByteArray} {L : List It} {N : Nat} (h : ShAt B w x mb b A a c O L N) (n : ByteArray) (hl : O.length ≤ 1000000) :
    Calls Try.prog 42 #[.pointer (some ⟨x, 0, none⟩), .string n] w fun e w' => e = .returned (.bool (inT O n)) ∧ w' = w := by
  have c2 := h.c2
  have k := contains_call (c := c) h.ord.reads n hl
  obtain ⟨V, eV⟩ : ∃ V, inT O n = V := ⟨_, rfl⟩
  obtain ⟨l, el⟩ : ∃ l, O.length = l := ⟨_, rfl⟩
  rw [eV] at k ⊢
  rw [el] at k c2
  clear h eV el hl
  go_enter Try.func42, Try.ntmps42
  go_wp2_with (first | (go_at_call 70; refine k.mono ?_; rintro e w' ⟨rfl, h1⟩; obtain rfl := h1.symm))
  go_ret
  exact ⟨rfl, rfl⟩

theorem isLoose_call {B : Nat} {w : World} {x mb b : Nat} {A : ByteArray → Nat} {a : Option Addr} {c : Nat} {O : List ByteArray} {L : List It} {N : Nat} (h : ShAt B w x mb b A a c O L N) (n : ByteArray) (it : It) (hi : look L n = some it) (hn : n.size ≤ maxLen) :
    Calls Try.prog 60 #[.pointer (some ⟨x, 0, none⟩), .string n] w fun e w' => e = .returned (.bool (it.pins == 0)) ∧ w' = w := by
  have c1 := h.c1
  have hk := h.lookW n hn
  rw [ptr_some hi] at hk
  obtain ⟨hm, hnm⟩ := look_some hi
  have q := (h.lot it hm).c2
  rw [hnm] at q
  obtain ⟨k, ek⟩ : ∃ k, A n = k := ⟨_, rfl⟩
  obtain ⟨p, ep⟩ : ∃ p, it.pins = p := ⟨_, rfl⟩
  rw [ek] at q hk
  rw [ep] at q ⊢
  clear h hm hnm hi ek ep hn
  by_cases hp : p = 0
  · subst hp
    go_enter Try.func60, Try.ntmps60
    go_wp2
    go_ret
    exact ⟨by simp, rfl⟩
  · have e1 : ((p : Int) == 0) = false := by simp; omega
    have e2 : (p == 0) = false := by simp; omega
    rw [e2]
    go_enter Try.func60, Try.ntmps60
    go_wp2
    go_ret
    exact ⟨by simp [e1], rfl⟩

/-- what a row of weights is in the order of pinning -/
theorem ordAt {L : List It} {k : Nat} (h : k < (names L).length) : ∃ it, (res L)[k]? = some it ∧ (names L).getD k noText = it.nm ∧ it ∈ L ∧ it.is = true := by
  unfold names at h ⊢
  rw [List.length_map] at h
  refine ⟨(res L)[k], by simp [h], by simp [List.getD, h], ?_, ?_⟩
  · exact (List.mem_filter.1 (List.getElem_mem h)).1
  · exact (List.mem_filter.1 (List.getElem_mem h)).2

/-- the first of the order of pinning that is not held, or none -/
theorem indexf_no {B : Nat} {w : World} {x mb b : Nat} {A : ByteArray → Nat} {a : Option Addr} {c : Nat} {L : List It} {N : Nat} (h : ShAt B w x mb b A a c (names L) L N) (hd : Nd L) (hz : ∀ it ∈ L, it.nm.size ≤ maxLen) (hl : (names L).length ≤ 1000000) (hf : ∀ (k : Nat) (it : It), (res L)[k]? = some it → it.pins ≠ 0) :
    Calls Try.prog 59 #[.slice a (names L).length c, .func (.func 60) #[.pointer (some ⟨x, 0, none⟩)] #[]] w fun e w' => e = .returned (.int .i64 (-1)) ∧ w' = w := by
  have HR := hidden_ h.ord.reads
  have key : Hid (∀ k, k < (names L).length → Calls Try.prog 60 #[.pointer (some ⟨x, 0, none⟩), .string ((names L).getD k noText)] w fun e w' => e = .returned (.bool false) ∧ w' = w) := hidden_ (fun k hk => by
    obtain ⟨it, h1, h2, h3, h4⟩ := ordAt hk
    have := isLoose_call h it.nm it (look_mem hd h3) (hz it h3)
    rw [show (it.pins == 0) = false by simpa using hf k it h1] at this
    rw [h2]
    exact this)
  obtain ⟨l, el⟩ : ∃ l, (names L).length = l := ⟨_, rfl⟩
  rw [el] at HR key hl ⊢
  clear h hd hz hf el
  go_enter Try.func59, Try.ntmps59
  go_wp2
  go_loopw [8] (fun i wr => ∃ k : Nat, k ≤ l ∧ i = .int .i64 k ∧ wr = w) (fun i _ => l - (intOf i).toNat)
  case atStart => exact ⟨0, Nat.zero_le _, rfl, rfl⟩
  case round =>
    obtain ⟨k, hk, rfl, rfl⟩ := hrel
    by_cases hlt : k < l
    · obtain ⟨y, rfl⟩ := HR.out.some_ (by omega)
      have cy := HR.out.cell y rfl k hlt
      have kk := key.out k hlt
      obtain ⟨t, et⟩ : ∃ t, (names L).getD k noText = t := ⟨_, rfl⟩
      rw [et] at cy kk
      clear et
      go_wp2_with (first | (go_at_call 60; refine kk.mono ?_; rintro e w' ⟨rfl, h1⟩; obtain rfl := h1.symm))
      go_roundw
      case rel => exact ⟨k + 1, by omega, by go_num, trivial⟩
      case measure => simp [intOf]; omega
    · have e : k = l := by omega
      subst e
      go_wp2
      go_ret
      exact ⟨rfl, rfl⟩
theorem indexf_yes {B : Nat} {w : World} {x mb b : Nat} {A : ByteArray → Nat} {a : Option Addr} {c : Nat} {L : List It} {N : Nat} (h : ShAt B w x mb b A a c (names L) L N) (hd : Nd L) (hz : ∀ it ∈ L, it.nm.size ≤ maxLen) (hl : (names L).length ≤ 1000000) (K : Nat) (hK : K < (names L).length)
    (hf : ∀ (k : Nat) (it : It), k < K → (res L)[k]? = some it → it.pins ≠ 0) (he : ∀ it, (res L)[K]? = some it → it.pins = 0) :
    Calls Try.prog 59 #[.slice a (names L).length c, .func (.func 60) #[.pointer (some ⟨x, 0, none⟩)] #[]] w fun e w' => e = .returned (.int .i64 (K : Int)) ∧ w' = w := by
  have HR := hidden_ h.ord.reads
  have key : Hid (∀ k, k < K → Calls Try.prog 60 #[.pointer (some ⟨x, 0, none⟩), .string ((names L).getD k noText)] w fun e w' => e = .returned (.bool false) ∧ w' = w) := hidden_ (fun k hk => by
    obtain ⟨it, h1, h2, h3, h4⟩ := ordAt (L := L) (k := k) (by omega)
    have := isLoose_call h it.nm it (look_mem hd h3) (hz it h3)
    rw [show (it.pins == 0) = false by simpa using hf k it hk h1] at this
    rw [h2]
    exact this)
  have key2 : Hid (Calls Try.prog 60 #[.pointer (some ⟨x, 0, none⟩), .string ((names L).getD K noText)] w fun e w' => e = .returned (.bool true) ∧ w' = w) := hidden_ (by
    obtain ⟨it, h1, h2, h3, h4⟩ := ordAt hK
    have := isLoose_call h it.nm it (look_mem hd h3) (hz it h3)
    rw [show (it.pins == 0) = true by simpa using he it h1] at this
    rw [h2]
    exact this)
  obtain ⟨l, el⟩ : ∃ l, (names L).length = l := ⟨_, rfl⟩
  rw [el] at HR hl hK ⊢
  clear h hd hz hf he el
  go_enter Try.func59, Try.ntmps59
  go_wp2
  go_loopw [8] (fun i wr => ∃ k : Nat, k ≤ K ∧ i = .int .i64 k ∧ wr = w) (fun i _ => l - (intOf i).toNat)
  case atStart => exact ⟨0, Nat.zero_le _, rfl, rfl⟩
  case round =>
    obtain ⟨k, hk, rfl, rfl⟩ := hrel
    have hlt : k < l := by omega
    obtain ⟨y, rfl⟩ := HR.out.some_ (by omega)
    have cy := HR.out.cell y rfl k hlt
    by_cases e : k = K
    · subst e
      have kk := key2.out
      obtain ⟨t, et⟩ : ∃ t, (names L).getD k noText = t := ⟨_, rfl⟩
      rw [et] at cy kk
      clear et hk
      go_wp2_with (first | (go_at_call 60; refine kk.mono ?_; rintro e w' ⟨rfl, h1⟩; obtain rfl := h1.symm))
      go_ret
      exact ⟨rfl, rfl⟩
    · have kk := key.out k (by omega)
      obtain ⟨t, et⟩ : ∃ t, (names L).getD k noText = t := ⟨_, rfl⟩
      rw [et] at cy kk
      clear et
      go_wp2_with (first | (go_at_call 60; refine kk.mono ?_; rintro e w' ⟨rfl, h1⟩; obtain rfl := h1.symm))
      go_roundw
      case rel => exact ⟨k + 1, by omega, by go_num, trivial⟩
      case measure => simp [intOf]; omega
/-- whom the order of pinning names first of those that are not held -/
theorem find_first {L : List It} {it : It} (h : L.find? loose = some it) : ∃ K, K < (names L).length ∧ (res L)[K]? = some it ∧ (names L).getD K noText = it.nm ∧ ∀ k y, k < K → (res L)[k]? = some y → y.pins ≠ 0 := by
  have e : (res L).find? (fun y => y.pins == 0) = some it := by
    unfold res
    rw [List.find?_filter, show (fun y : It => decide (y.is = true ∧ (y.pins == 0) = true)) = loose from by funext y; unfold loose; rw [Bool.eq_iff_iff]; simp]
    exact h
  rw [List.find?_eq_some_iff_getElem] at e
  obtain ⟨h1, K, hK, e1, e2⟩ := e
  refine ⟨K, by unfold names; rw [List.length_map]; exact hK, by rw [← e1]; simp [hK], by unfold names; simp [List.getD, hK, e1], fun k y hk hy => ?_⟩
  have := e2 k hk
  obtain ⟨q, hq⟩ := List.getElem?_eq_some_iff.1 hy
  rw [hq] at this
  simpa using this
theorem find_nobody {L : List It} (h : L.find? loose = none) : ∀ (k : Nat) it, (res L)[k]? = some it → it.pins ≠ 0 := fun k it hk e => by
  have hm := List.mem_of_getElem? hk
  obtain ⟨h1, h2⟩ := List.mem_filter.1 hm
  have := List.find?_eq_none.1 h it h1
  exact this (loose_of h2 e)

theorem pins_call {B : Nat} {w : World} {x mb b : Nat} {A : ByteArray → Nat} {a : Option Addr} {c : Nat} {O : List ByteArray} {L : List It} {N : Nat} (h : ShAt B w x mb b A a c O L N) (n : ByteArray) (hn : n.size ≤ maxLen) :
    Calls Try.prog 14 #[.pointer (some ⟨x, 0, none⟩), .string n] w fun e w' => e = .returned (.int .i64 (pinsZ L n)) ∧ w' = w := by
  have c1 := h.c1
  have hk := h.lookW n hn
  unfold pinsZ
  cases hi : look L n with
  | none =>
    rw [ptr_none hi] at hk
    clear h hi hn
    go_enter Try.func14, Try.ntmps14
    go_wp2
    go_ret
    exact ⟨rfl, rfl⟩
  | some it =>
    rw [ptr_some hi] at hk
    obtain ⟨hm, hnm⟩ := look_some hi
    have q := (h.lot it hm).c2
    rw [hnm] at q
    obtain ⟨k, ek⟩ : ∃ k, A n = k := ⟨_, rfl⟩
    obtain ⟨p, ep⟩ : ∃ p, it.pins = p := ⟨_, rfl⟩
    rw [ek] at q hk
    simp only [ep] at q ⊢
    clear h hm hnm hi ek ep hn
    go_enter Try.func14, Try.ntmps14
    go_wp2
    go_ret
    exact ⟨rfl, rfl⟩

theorem atHand14_call {B : Nat} {w : World} {x mb b : Nat} {A : ByteArray → Nat} {a : Option Addr} {c : Nat} {O : List ByteArray} {L : List It} {N : Nat} (h : ShAt B w x mb b A a c O L N) {g m : Nat} {s : Pl} (hp : PoolAt B w b g s) (hG : Good m s) :
    Calls Try.prog 47 #[.pointer (some ⟨x, 0, none⟩)] w fun e w' => e = .returned (.int .i64 (hand s)) ∧ ∃ m, w' = w.drewN m := by
  have c0 := h.c0
  have k := sizes_call hp hG.n1
  have a0 := hG.a0
  have a1 := hG.few
  have f := freeTo_le s.pg s.n
  have n1 := hG.n1
  unfold hand
  obtain ⟨F, eF⟩ : ∃ F, freeTo s.pg s.n = F := ⟨_, rfl⟩
  rw [eF] at k f ⊢
  obtain ⟨D, eD⟩ : ∃ D, s.aside = D := ⟨_, rfl⟩
  rw [eD] at k a0 a1 ⊢
  obtain ⟨M, eM⟩ : ∃ M, s.n = M := ⟨_, rfl⟩
  rw [eM] at k f n1
  clear h hp hG eF eD eM
  go_enter Try.func47, Try.ntmps47
  go_wp2_with (first | (go_at_call 27; refine k.mono ?_; rintro e w' ⟨rfl, m', h1⟩))
  go_ret
  exact ⟨rfl, m', rfl⟩

end Go.Proofs.Ytfggkkhehaafcaa
