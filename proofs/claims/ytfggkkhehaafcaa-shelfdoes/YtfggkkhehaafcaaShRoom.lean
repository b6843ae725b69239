/- How many pages could be had; rows that are cloned. -/
import Derived.Test.YtfggkkhehaafcaaRows
import Derived.Test.YtfggkkhehaafcaaPages
import Derived.Test.YtfggkkhehaafcaaView
import Derived.Test.YtfggkkhehaafcaaOwn
import Derived.Test.YtfggkkhehaafcaaReadsP
import Derived.Test.YtfggkkhehaafcaaReadsQ
import Derived.Test.YtfggkkhehaafcaaLeast
import Derived.Test.YtfggkkhehaafcaaLays
import Derived.Test.YtfggkkhehaafcaaGoods
import Derived.Test.YtfggkkhehaafcaaPlain
import Derived.Test.YtfggkkhehaafcaaLies
import Derived.Test.YtfggkkhehaafcaaCopies
import Derived.Test.YtfggkkhehaafcaaRelease
import Derived.Test.YtfggkkhehaafcaaMapV
import Derived.Test.YtfggkkhehaafcaaShPlain
import Derived.Test.YtfggkkhehaafcaaShActs
import Derived.Test.YtfggkkhehaafcaaShAt
import Derived.Test.YtfggkkhehaafcaaIndex
import Derived.Test.YtfggkkhehaafcaaDelete
import Derived.Test.YtfggkkhehaafcaaShRd
import Derived.Test.YtfggkkhehaafcaaShTurn
import Derived.Test.YtfggkkhehaafcaaShRel
import Derived.Test.YtfggkkhehaafcaaShLoose
import Derived.WalkKit
import Derived.ProofKit
import Derived.OpenShut
import Derived.Below
import Derived.WalkLawsBesides
import Derived.Deep.QuietTactic
import Derived.BigQuiet
import Derived.Maps.OwnSet
import Derived.Maps.AppendAt
import Derived.OwnWalk
namespace Go.Proofs.Ytfggkkhehaafcaa
open Go.ChangeShapes Go.WideShapes Go.ChangeAt Go.RowKit
set_option linter.unusedVariables false
set_option linter.unusedSimpArgs false

theorem looseP_mem {L : List It} {z : Int} (h : z ∈ looseP L) : ∃ x ∈ L, x.is = true ∧ z ∈ x.P := by
  unfold looseP at h
  obtain ⟨x, hx, hz⟩ := List.mem_flatMap.1 h
  obtain ⟨h1, h2⟩ := List.mem_filter.1 hx
  simp only [loose, Bool.and_eq_true] at h2
  exact ⟨x, h1, h2.1, hz⟩
theorem ShOk.looseOw {cap : Nat} {s : Pl} {L : List It} (h : ShOk cap s L) {z : Int} (hz : z ∈ looseP L) : owZ s z = 1 := by
  obtain ⟨x, hx, _, hz⟩ := looseP_mem hz
  exact (h.owned hx).ow (by decide) z hz
theorem flat_few (f : It → List Int) (L : List It) (h : ∀ x ∈ L, (f x).length ≤ 63) : (L.flatMap f).length ≤ 63 * L.length := by
  induction L with
  | nil => simp
  | cons x r ih =>
    have h1 := h x (by simp)
    have h2 := ih fun y hy => h y (by simp [hy])
    rw [List.flatMap_cons, List.length_append, List.length_cons]
    omega
theorem ShOk.looseFew {cap : Nat} {s : Pl} {L : List It} (h : ShOk cap s L) : (looseP L).length ≤ 63 * cap := by
  unfold looseP
  have h1 := flat_few (fun x => x.P) (L.filter loose) (fun x hx => h.pageLen (List.mem_filter.1 hx).1)
  have h2 := List.length_filter_le loose L
  have h3 := h.few
  omega
theorem hand_bound {m : Nat} {s : Pl} (h : Good m s) : 0 ≤ hand s ∧ hand s ≤ 256 := by
  have := h.a0
  have := h.a1
  have := h.n1
  have := freeTo_le s.pg s.n
  unfold hand
  omega

theorem couldHave_call {cap g : Nat} {s : Pl} {B : Nat} {w : World} {x mb b : Nat} {A : ByteArray → Nat} {a : Option Addr} {c : Nat} {L : List It} {N : Nat} (h : ShAt B w x mb b A a c (names L) L N) (hp : PoolAt B w b g s) (hok : ShOk cap s L) (hcap : cap ≤ 1000) :
    Calls Try.prog 75 #[.pointer (some ⟨x, 0, none⟩)] w fun e w' => e = .returned (.int .i64 (roomZ s L)) ∧ Below w.heap.size w w' := by
  have k47 := atHand14_call h hp hok.good
  have k48 := fun m => loosePages_call (h.drewN m) hok hcap
  have HA := hidden_ (And.intro h hp)
  have HW := hidden_ (fun z (hz : z ∈ looseP L) => hok.looseOw hz)
  have hfew := hok.looseFew
  obtain ⟨b0, b1⟩ := hand_bound hok.good
  have n1 := hok.good.n1
  unfold roomZ
  obtain ⟨M, eM⟩ : ∃ M, hand s = M := ⟨_, rfl⟩
  rw [eM] at k47 b0 b1 ⊢
  obtain ⟨P, eP⟩ : ∃ P, looseP L = P := ⟨_, rfl⟩
  rw [eP] at k48 HW hfew ⊢
  obtain ⟨p, ep⟩ : ∃ p, P.length = p := ⟨_, rfl⟩
  rw [ep] at hfew ⊢
  clear h hp hok eM eP
  go_enter Try.func75, Try.ntmps75
  go_wp2_with (first
    | (go_at_call 47; refine k47.mono ?_; rintro e W1 ⟨rfl, m', h1⟩; have k48' := k48 m'; rw [← h1] at k48'; have HD := hidden_ h1; clear h1 k48)
    | (go_at_call 48; refine k48'.mono ?_; rintro e W2 ⟨⟨pa, pl, pc, rfl, hrow⟩, hb⟩; obtain rfl : p = pl := (by rw [← ep]; exact hrow.len)))
  have HB := hidden_ (show Below w.heap.size w W2 from ⟨by rw [hb.os, HD.out]; rfl, by rw [hb.tape, HD.out]; rfl, by rw [hb.output, HD.out]; rfl, by have := hb.size; rw [HD.out] at this; exact this, fun k hk => by have := hb.block k (by rw [HD.out]; exact hk); rw [this, HD.out]; rfl⟩)
  have HR := hidden_ hrow
  have c0 := (HA.out.1.below HB.out).c0
  have HPo := hidden_ (HA.out.2.below HB.out)
  clear hb hrow k48' k47
  go_loopw [3, 11] (fun v i wr => ∃ k : Nat, k ≤ p ∧ i = .int .i64 k ∧ v = .int .i64 (M + (k : Int)) ∧ wr = W2) (fun _ i _ => p - (intOf i).toNat)
  case atStart => exact ⟨0, Nat.zero_le _, rfl, by simp, rfl⟩
  case round =>
    obtain ⟨k, hk, rfl, rfl, rfl⟩ := hrel
    by_cases hlt : k < p
    · obtain ⟨y, rfl⟩ := HR.out.reads.some_ (by omega)
      have cy := HR.out.reads.cell y rfl k hlt
      obtain ⟨Z, eZ⟩ : ∃ Z, P.getD k 0 = Z := ⟨_, rfl⟩
      have kO := owners_call HPo.out n1 Z
      rw [HW.out Z (by rw [← eZ]; exact getD_mem (by omega))] at kO
      rw [eZ] at cy
      clear eZ
      go_wp2_with (first | (go_at_call 51; refine kO.mono ?_; rintro e w' ⟨rfl, h1⟩; obtain rfl := h1.symm))
      go_roundw
      case rel => exact ⟨k + 1, by omega, by go_num, by go_num, trivial⟩
      case measure => simp [intOf]; omega
    · have e : k = p := by omega
      subst e
      go_wp2
      go_ret
      exact ⟨rfl, HB.out⟩

theorem room_call {cap g : Nat} {s : Pl} {B : Nat} {w : World} {x mb b : Nat} {A : ByteArray → Nat} {a : Option Addr} {c : Nat} {L : List It} {N : Nat} (h : ShAt B w x mb b A a c (names L) L N) (hp : PoolAt B w b g s) (hok : ShOk cap s L) (hcap : cap ≤ 1000) :
    Calls Try.prog 19 #[.pointer (some ⟨x, 0, none⟩)] w fun e w' => e = .returned (.int .i64 (roomZ s L)) ∧ Below w.heap.size w w' := by
  have k47 := atHand14_call h hp hok.good
  have k48 := fun m => loosePages_call (h.drewN m) hok hcap
  have hfew := hok.looseFew
  obtain ⟨b0, b1⟩ := hand_bound hok.good
  unfold roomZ
  obtain ⟨M, eM⟩ : ∃ M, hand s = M := ⟨_, rfl⟩
  rw [eM] at k47 b0 b1 ⊢
  obtain ⟨P, eP⟩ : ∃ P, looseP L = P := ⟨_, rfl⟩
  rw [eP] at k48 hfew ⊢
  clear h hp hok eM eP
  obtain ⟨p, ep⟩ : ∃ p, P.length = p := ⟨_, rfl⟩
  rw [ep] at hfew ⊢
  go_enter Try.func19, Try.ntmps19
  go_wp2_with (first
    | (go_at_call 47; refine k47.mono ?_; rintro e W1 ⟨rfl, m', h1⟩; have k48' := k48 m'; rw [← h1] at k48'; have HD := hidden_ h1; clear h1 k48)
    | (go_at_call 48; refine k48'.mono ?_; rintro e W2 ⟨⟨pa, pl, pc, rfl, hrow⟩, hb⟩; obtain rfl : p = pl := (by rw [← ep]; exact hrow.len)))
  go_ret
  exact ⟨rfl, ⟨by rw [hb.os, HD.out]; rfl, by rw [hb.tape, HD.out]; rfl, by rw [hb.output, HD.out]; rfl, by have := hb.size; rw [HD.out] at this; exact this, fun k hk => by have := hb.block k (by rw [HD.out]; exact hk); rw [this, HD.out]; rfl⟩⟩

/-- a row of texts is copied -/
theorem run_copyT (w : World) (ty : TypeId) (a : Option Addr) (n c : Nat) (ts : List ByteArray) (hs : ReadT w a n ts) (hn : n ≤ 1000000) :
    ∃ ca cc W2, (Builtin.append_ #[46, 46] ty #[.slice (some ⟨w.heap.size, 0, none⟩) 0 0, .slice a n c]).run Try.prog (w.alloc (.cells #[] 9)) = .ok (.slice ca n cc) W2 ∧ RowT w.heap.size W2 ca n cc ts ∧ Below w.heap.size w W2 := by
  obtain ⟨i0, hi, hz0, hz1, hz2⟩ := info_parts info9
  have hlen := hs.len
  have hown : (w.alloc (.cells #[] 9)).ownsRow w.heap.size 9 1 (.slice (some ⟨w.heap.size, 0, none⟩) 0 0) 0 [] := empty_own (heap_alloc_new w _) (Nat.le_refl _)
  have hb1 := below_new (Below.refl w.heap.size w) (.cells #[] 9)
  by_cases h0 : n = 0
  · subst h0
    obtain rfl : ts = [] := List.eq_nil_of_length_eq_zero hlen
    refine ⟨some ⟨w.heap.size, 0, none⟩, 0, w.alloc (.cells #[] 9), ?_, ⟨rfl, hown⟩, hb1⟩
    cases a with
    | none => simp [Builtin.append_, run_underlying Try.underlying46, sizeOf, typeInfo, hi, Builtin.lenOf, Builtin.firstCells, storeCells]
    | some x => simp [Builtin.append_, run_underlying Try.underlying46, sizeOf, typeInfo, hi, Builtin.lenOf, Builtin.firstCells, storeCells, loadCells, loadCellsFrom]
  · obtain ⟨x, rfl⟩ := hs.some_ (by omega)
    have hs1 := hs.below hb1
    obtain ⟨v', w', hr, ho, hg, _, _⟩ := run_append_own_at (P := Try.prog) (w := w.alloc (.cells #[] 9)) w.heap.size 46 ty 9 i0 _ 1 16 Try.underlying46 hi hz0 hz1 hz2 rfl (by decide) _ 0 _ hown x n c (ts.map Value.string) (by simpa using hlen)
      (fun j u hj => by
        have hjm : j < n := by have := (List.getElem?_eq_some_iff.1 hj).1; rw [List.length_map] at this; omega
        rw [hs1.cell x rfl j hjm, ← hj, texts_at ts j (by omega)])
      (fun u hu => by obtain ⟨z, _, rfl⟩ := List.mem_map.1 hu; rfl) (by unfold maxLen; omega) (by omega) (by simp)
    simp only [Nat.zero_add, List.nil_append] at ho
    obtain ⟨a', c', rfl⟩ := own_form ho
    refine ⟨a', c', w', hr, ⟨hlen, ho⟩, hb1.grown hg (by simp) (fun k e => (hown.lt k e).1)⟩

theorem cloneT_call {w : World} {a : Option Addr} {l c : Nat} {ts : List ByteArray} (h : ReadT w a l ts) (hc : a = none → c = 0) (hl : l ≤ 1000000) :
    Calls Try.prog 46 #[.slice a l c] w fun e w' => (∃ a' c', e = .returned (.slice a' l c') ∧ RowT w.heap.size w' a' l c' ts) ∧ Below w.heap.size w w' := by
  have hlen := h.len
  cases a with
  | none =>
    obtain rfl := hc rfl
    have h0 : l = 0 := by
      rcases Nat.eq_zero_or_pos l with e | e
      · exact e
      · obtain ⟨x, hx⟩ := h.some_ e
        cases hx
    subst h0
    obtain rfl : ts = [] := List.eq_nil_of_length_eq_zero hlen
    have q46 : ∀ (w : World) (a : Option Addr) (n c n' c' : Nat), (binOp .eql 46 (.slice a n c) (.slice none n' c')).run Try.prog w = .ok (.bool a.isNone) w := fun w a n c n' c' => Lib.run_eql_slice_nil w _ _ a n c n' c' Try.underlying46
    clear h hc
    go_enter Try.func46, Try.ntmps46
    go_wp2
    go_ret
    exact ⟨⟨none, 0, rfl, RowT.nil _ _⟩, Below.refl _ _⟩
  | some y =>
    obtain ⟨ca, cc, W2, hr, hrow, hb⟩ := run_copyT w 46 (some y) l c ts h hl
    have HQ := hidden_ (And.intro hrow hb)
    have q46 : ∀ (w : World) (a : Option Addr) (n c n' c' : Nat), (binOp .eql 46 (.slice a n c) (.slice none n' c')).run Try.prog w = .ok (.bool a.isNone) w := fun w a n c n' c' => Lib.run_eql_slice_nil w _ _ a n c n' c' Try.underlying46
    clear h hrow hb hc
    go_enter Try.func46, Try.ntmps46
    go_wp2_with (first | (at_builtin; refine wpList_append_run rfl (.tmp 5) (.tmp 6) 46 rfl 46 rfl _ _ rfl rfl _ _ hr ?_))
    go_ret
    exact ⟨⟨_, _, rfl, HQ.out.1⟩, HQ.out.2⟩
theorem cloneB_call {w : World} {a : Option Addr} {l c : Nat} {zs : List Int} (h : Reads .i8 w a l zs) (hc : a = none → c = 0) (hl : l ≤ 1000000) :
    Calls Try.prog 54 #[.slice a l c] w fun e w' => (∃ a' c', e = .returned (.slice a' l c') ∧ RowB w.heap.size w' a' l c' zs) ∧ Below w.heap.size w w' := by
  have hlen := h.len
  cases a with
  | none =>
    obtain rfl := hc rfl
    have h0 : l = 0 := by
      rcases Nat.eq_zero_or_pos l with e | e
      · exact e
      · obtain ⟨x, hx⟩ := h.some_ e
        cases hx
    subst h0
    obtain rfl : zs = [] := List.eq_nil_of_length_eq_zero hlen
    have q37 : ∀ (w : World) (a : Option Addr) (n c n' c' : Nat), (binOp .eql 37 (.slice a n c) (.slice none n' c')).run Try.prog w = .ok (.bool a.isNone) w := fun w a n c n' c' => Lib.run_eql_slice_nil w _ _ a n c n' c' Try.underlying37
    clear h hc
    go_enter Try.func54, Try.ntmps54
    go_wp2
    go_ret
    exact ⟨⟨none, 0, rfl, RowB.nil _ _⟩, Below.refl _ _⟩
  | some y =>
    obtain ⟨ca, cc, W2, hr, hrow, hb⟩ := run_copyB w 37 (some y) l c zs h (by omega)
    have HQ := hidden_ (And.intro hrow hb)
    have q37 : ∀ (w : World) (a : Option Addr) (n c n' c' : Nat), (binOp .eql 37 (.slice a n c) (.slice none n' c')).run Try.prog w = .ok (.bool a.isNone) w := fun w a n c n' c' => Lib.run_eql_slice_nil w _ _ a n c n' c' Try.underlying37
    clear h hrow hb hc
    go_enter Try.func54, Try.ntmps54
    go_wp2_with (first | (at_builtin; refine wpList_append_run rfl (.tmp 5) (.tmp 6) 37 rfl 37 rfl _ _ rfl rfl _ _ hr ?_))
    go_ret
    exact ⟨⟨_, _, rfl, HQ.out.1⟩, HQ.out.2⟩

end Go.Proofs.Ytfggkkhehaafcaa
