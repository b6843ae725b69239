/- Who yields; the pages of what is not held. -/
import Derived.Test.YtfggkkhehaafcaaRows
import Derived.Test.YtfggkkhehaafcaaPages
import Derived.Test.YtfggkkhehaafcaaView
import Derived.Test.YtfggkkhehaafcaaOwn
import Derived.Test.YtfggkkhehaafcaaReadsP
import Derived.Test.YtfggkkhehaafcaaReadsQ
import Derived.Test.YtfggkkhehaafcaaLeast
import Derived.Test.YtfggkkhehaafcaaLays
import Derived.Test.YtfggkkhehaafcaaGoods
import Derived.Test.YtfggkkhehaafcaaPlain
import Derived.Test.YtfggkkhehaafcaaRelease
import Derived.Test.YtfggkkhehaafcaaMapV
import Derived.Test.YtfggkkhehaafcaaShPlain
import Derived.Test.YtfggkkhehaafcaaShActs
import Derived.Test.YtfggkkhehaafcaaShAt
import Derived.Test.YtfggkkhehaafcaaIndex
import Derived.Test.YtfggkkhehaafcaaDelete
import Derived.Test.YtfggkkhehaafcaaShRd
import Derived.Test.YtfggkkhehaafcaaShTurn
import Derived.Test.YtfggkkhehaafcaaShRel
import Derived.WalkKit
import Derived.ProofKit
import Derived.OpenShut
import Derived.Below
import Derived.WalkLawsBesides
import Derived.Deep.QuietTactic
import Derived.BigQuiet
import Derived.Maps.OwnSet
import Derived.Maps.AppendAt
import Derived.OwnWalk
namespace Go.Proofs.Ytfggkkhehaafcaa
open Go.ChangeShapes Go.WideShapes Go.ChangeAt Go.RowKit
set_option linter.unusedVariables false
set_option linter.unusedSimpArgs false

theorem wpList_append_run {P : Program} {w : World} {ops : Array Oper} {rest : List Oper} {o : Oper} {a : Act} {Q : Exit → Act → World → Prop} (hgd : o.guard = none) (s x : Operand) (t : TypeId) (ho : o.op = .call { callee := .builtin .append, args := #[s, x], argTypes := #[t, t] })
    (ty : TypeId) (hty : o.type = ty) (V1 V2 : Value) (hs : a.eval s = V1) (hx : a.eval x = V2) (v' : Value) (w' : World) (hrun : (Builtin.append_ #[t, t] ty #[V1, V2]).run P w = .ok v' w') (h : wpList P ops Q rest (a.put o.dst v') w') : wpList P ops Q (o :: rest) a w := by
  refine wpList_plain hgd fun K hK => ?_
  subst hty
  unfold Oper.wp
  simp [execOp, ho, resolve, invoke, builtin, hs, hx, hrun, Result.andThen]
  exact hK _ _ h

theorem append_none {t e : TypeId} {i : TypeInfo} (ht : Try.prog.underlying t = some (.slice e)) (hi : Try.prog.info? e = some i) (w : World) (a : Option Addr) (l c : Nat) (hl : l ≤ c) (hn : a = none → c = 0) (ty : TypeId) :
    (Builtin.append_ #[t, t] ty #[.slice a l c, .slice none 0 0]).run Try.prog w = .ok (.slice a l c) w := by
  cases a with
  | none =>
    obtain rfl := hn rfl
    obtain rfl : l = 0 := by omega
    simp [Builtin.append_, run_underlying ht, sizeOf, typeInfo, hi, Builtin.lenOf, Builtin.firstCells, storeCells]
  | some x => simp [Builtin.append_, run_underlying ht, sizeOf, typeInfo, hi, Builtin.lenOf, Builtin.firstCells, storeCells, hl]

/-- a row of numbers is laid behind another one -/
theorem run_append_row {B : Nat} {w : World} {a : Option Addr} {l c : Nat} {zs : List Int} (h : RowI B w a l c zs) {sa : Option Addr} {m sc : Nat} {ys : List Int} (hs : Reads .i64 w sa m ys) (hsc : sa = none → sc = 0) (hl : l ≤ 1000000) (hm : m ≤ 1000000) (hB : B ≤ w.heap.size) (ty : TypeId) :
    ∃ a' c' w', (Builtin.append_ #[58, 58] ty #[.slice a l c, .slice sa m sc]).run Try.prog w = .ok (.slice a' (l + m) c') w' ∧ RowI B w' a' (l + m) c' (zs ++ ys) ∧ Below B w w' := by
  obtain ⟨i0, hi, hz0, hz1, hz2⟩ := info_parts info3
  have hlen := hs.len
  cases sa with
  | none =>
    have h0 : m = 0 := by
      rcases Nat.eq_zero_or_pos m with e | e
      · exact e
      · obtain ⟨x, hx⟩ := hs.some_ e
        cases hx
    subst h0
    obtain rfl : ys = [] := List.eq_nil_of_length_eq_zero hlen
    obtain rfl := hsc rfl
    refine ⟨a, c, w, append_none Try.underlying58 hi w a l c (own_cap h.own) (fun e => ?_) ty, by simpa using h, Below.refl _ _⟩
    rcases h.own.2 with ⟨h1, _⟩ | ⟨g, cap, cur, h1, _⟩
    · simp only [Value.slice.injEq] at h1; omega
    · simp only [Value.slice.injEq] at h1; rw [e] at h1; cases h1.1
  | some x =>
    obtain ⟨v', w', hr, ho, hg, _, _⟩ := run_append_own_at (P := Try.prog) (w := w) B 58 ty 3 i0 _ 1 8 Try.underlying58 hi hz0 hz1 hz2 rfl (by decide) _ l _ h.own x m sc (ys.map (Value.int .i64)) (by simpa using hlen)
      (fun j u hj => by
        have hjm : j < m := by have := (List.getElem?_eq_some_iff.1 hj).1; rw [List.length_map] at this; omega
        rw [hs.cell x rfl j hjm, ← hj, ints_at ys j (by omega)])
      (fun u hu => by obtain ⟨z, _, rfl⟩ := List.mem_map.1 hu; rfl) (by unfold maxLen; omega) (by omega) hB
    obtain ⟨a', c', rfl⟩ := own_form ho
    refine ⟨a', c', w', hr, ⟨by simp [h.len, hlen], by rw [List.map_append]; exact ho, fun z hz => ?_⟩, (Below.refl B w).grown hg hB (fun k e => (h.own.lt k e).1)⟩
    rcases List.mem_append.1 hz with hz | hz
    · exact h.wf z hz
    · exact hs.wf_mem z hz

theorem yield_call {cap g : Nat} {s : Pl} {B : Nat} {w : World} {x mb b : Nat} {A : ByteArray → Nat} {a : Option Addr} {c : Nat} {L : List It} {N : Nat} (h : ShAt B w x mb b A a c (names L) L N) (hp : PoolAt B w b g s) (hok : ShOk cap s L) (hcap : cap ≤ 1000) :
    Calls Try.prog 28 #[.pointer (some ⟨x, 0, none⟩)] w fun e w' => e = .returned (.bool (yieldB L)) ∧ ShAt B w' x mb b A a c (names (yieldP s L).2) (yieldP s L).2 N ∧ PoolAt B w' b g (yieldP s L).1 ∧ OffS B TS (blkOf a) w w' := by
  have c2 := h.c2
  have nl := names_len L
  have few := hok.few
  have hz : ∀ it ∈ L, it.nm.size ≤ maxLen := fun it hi => by have := (hok.nm it hi).2; unfold maxLen; omega
  unfold yieldB yieldP
  cases hf : L.find? loose with
  | none =>
    have k := indexf_no h hok.nd hz (by omega) (find_nobody hf)
    have HH := hidden_ (And.intro h hp)
    obtain ⟨l, el⟩ : ∃ l, (names L).length = l := ⟨_, rfl⟩
    rw [el] at k c2
    clear h hp hok hf hz el nl few hcap
    go_enter Try.func28, Try.ntmps28
    go_wp2_with (first | (go_at_call 59; refine k.mono ?_; rintro e w' ⟨rfl, h1⟩; obtain rfl := h1.symm))
    go_ret
    exact ⟨rfl, HH.out.1, HH.out.2, OffS.refl _ _ _ _⟩
  | some it =>
    obtain ⟨hi, h1, h2⟩ := find_loose hf
    obtain ⟨K, hK, e1, e2, e3⟩ := find_first hf
    have k := indexf_yes h hok.nd hz (by omega) K hK e3 (fun y hy => by rw [e1] at hy; rw [← Option.some.inj hy]; exact h2)
    have kR := release14_call h hp hok hcap (look_mem hok.nd hi) (hz it hi)
    obtain ⟨y, hy⟩ := h.ord.reads.some_ (by omega)
    have cy := h.ord.reads.cell y hy K hK
    rw [e2] at cy
    obtain ⟨l, el⟩ : ∃ l, (names L).length = l := ⟨_, rfl⟩
    rw [el] at k c2 hK
    subst hy
    have hl : l ≤ 1000 := by omega
    clear h hp hok hf hz el nl few hcap e1 e2 e3
    go_enter Try.func28, Try.ntmps28
    go_wp2_with (first
      | (go_at_call 59; refine k.mono ?_; rintro e w' ⟨rfl, h1⟩; obtain rfl := h1.symm)
      | (go_at_call 57; refine kR.mono ?_; rintro e w2 ⟨rfl, r1, r2, r3⟩))
    go_ret
    exact ⟨rfl, r1, r2, r3⟩

/-- the pages of the first ones of the order of pinning that are not held -/
def lpTo (L : List It) (k : Nat) : List Int := (((res L).take k).filter (fun y => y.pins == 0)).flatMap (fun y => y.P)
theorem lpTo_all (L : List It) : lpTo L (res L).length = looseP L := by
  unfold lpTo looseP res
  rw [List.take_length, List.filter_filter]
  congr 2
  funext y
  unfold loose
  rw [Bool.and_comm]
theorem lpTo_succ {L : List It} {k : Nat} {it : It} (h : (res L)[k]? = some it) : lpTo L (k + 1) = lpTo L k ++ (if it.pins = 0 then it.P else []) := by
  unfold lpTo
  rw [List.take_add_one, h, List.filter_append, List.flatMap_append]
  congr 1
  by_cases e : it.pins = 0 <;> simp [e]

theorem loosePages_call {cap : Nat} {s : Pl} {B : Nat} {w : World} {x mb b : Nat} {A : ByteArray → Nat} {a : Option Addr} {c : Nat} {L : List It} {N : Nat} (h : ShAt B w x mb b A a c (names L) L N) (hok : ShOk cap s L) (hcap : cap ≤ 1000) :
    Calls Try.prog 48 #[.pointer (some ⟨x, 0, none⟩)] w fun e w' => (∃ a' l' c', e = .returned (.slice a' l' c') ∧ RowI w.heap.size w' a' l' c' (looseP L)) ∧ Below w.heap.size w w' := by
  have c2 := h.c2
  have nl := names_len L
  have few := hok.few
  have hz : ∀ it ∈ L, it.nm.size ≤ maxLen := fun it hi => by have := (hok.nm it hi).2; unfold maxLen; omega
  have HA := hidden_ h
  have HN := hidden_ hok.nd
  have HZ := hidden_ hz
  have HP := hidden_ (fun it hi => hok.pageLen (x := it) hi)
  obtain ⟨l, el⟩ : ∃ l, (names L).length = l := ⟨_, rfl⟩
  have hll : l ≤ 1000 := by omega
  have HL := hidden_ el
  rw [el] at c2
  clear h hok hz el nl few hcap
  go_enter Try.func48, Try.ntmps48
  go_wp2
  go_loopw [3, 11] (fun v i wr => ∃ (k : Nat) (pa : Option Addr) (pl pc : Nat), k ≤ l ∧ i = .int .i64 k ∧ v = .slice pa pl pc ∧ pl ≤ 63 * k ∧ RowI w.heap.size wr pa pl pc (lpTo L k) ∧ Below w.heap.size w wr) (fun _ i _ => l - (intOf i).toNat)
  case atStart => exact ⟨0, none, 0, 0, Nat.zero_le _, rfl, rfl, Nat.zero_le _, RowI.nil _ _, Below.refl _ _⟩
  case round =>
    obtain ⟨k, pa, pl, pc, hk, rfl, rfl, hpl, hrow, hb⟩ := hrel
    by_cases hlt : k < l
    · have hk' : k < (names L).length := by rw [HL.out]; exact hlt
      have h' := HA.out.below hb
      obtain ⟨y, hy⟩ := h'.ord.reads.some_ (by omega)
      have cy := h'.ord.reads.cell y hy k hk'
      obtain ⟨it, e1, e2, e3, e4⟩ := ordAt hk'
      rw [e2] at cy
      have hlk := look_mem HN.out e3
      have kL := isLoose_call h' it.nm it hlk (HZ.out it e3)
      have c1 := h'.c1
      have hlook := h'.lookW it.nm (HZ.out it e3)
      rw [ptr_some hlk] at hlook
      obtain ⟨qa, qc, lc, lrow⟩ := (h'.lot it e3).c1
      obtain ⟨kb, ekb⟩ : ∃ kb, A it.nm = kb := ⟨_, rfl⟩
      rw [ekb] at lc hlook
      have hp63 := HP.out it e3
      have hs := lpTo_succ e1
      subst hy
      by_cases hp : it.pins = 0
      · rw [show (it.pins == 0) = true by simp [hp]] at kL
        rw [if_pos hp] at hs
        obtain ⟨a', c', w2, hr, hrow2, hb2⟩ := run_append_row hrow (sc := qc) lrow.reads (fun e => by
          rcases lrow.own.2 with ⟨h1, _⟩ | ⟨g, cap, cur, h1, _⟩
          · simp only [Value.slice.injEq] at h1; omega
          · simp only [Value.slice.injEq] at h1; rw [e] at h1; cases h1.1) (by omega) (by omega) hb.size 58
        rw [← hs] at hrow2
        have HQ := hidden_ (And.intro hrow2 (hb.trans hb2))
        obtain ⟨m, em⟩ : ∃ m, it.P.length = m := ⟨_, rfl⟩
        rw [em] at lc hr HQ hp63
        obtain ⟨nm, enm⟩ : ∃ nm, it.nm = nm := ⟨_, rfl⟩
        rw [enm] at kL cy hlook
        clear hrow hb hrow2 hb2 hs lrow hlk h' e1 e2 e3 e4 em enm ekb hp
        go_wp2_with (first
          | (go_at_call 60; refine kL.mono ?_; rintro e w' ⟨rfl, h1⟩; obtain rfl := h1.symm)
          | (at_builtin; refine wpList_append_run rfl (.tmp 18) (.tmp 27) 58 rfl 58 rfl _ _ rfl rfl _ _ hr ?_))
        go_roundw
        case rel => exact ⟨k + 1, a', pl + m, c', by omega, by go_num, rfl, by omega, HQ.out.1, HQ.out.2⟩
        case measure => simp [intOf]; omega
      · rw [show (it.pins == 0) = false by simp [hp]] at kL
        rw [if_neg hp, List.append_nil] at hs
        have HQ := hidden_ (And.intro hrow hb)
        rw [← hs] at HQ
        obtain ⟨nm, enm⟩ : ∃ nm, it.nm = nm := ⟨_, rfl⟩
        rw [enm] at kL cy hlook
        clear hrow hb hs lrow hlk h' e1 e2 e3 e4 enm ekb hp
        go_wp2_with (first
          | (go_at_call 60; refine kL.mono ?_; rintro e w' ⟨rfl, h1⟩; obtain rfl := h1.symm))
        go_roundw
        case rel => exact ⟨k + 1, pa, pl, pc, by omega, by go_num, rfl, by omega, HQ.out.1, HQ.out.2⟩
        case measure => simp [intOf]; omega
    · have e : k = l := by omega
      subst e
      have HQ := hidden_ (And.intro hrow hb)
      clear hrow hb
      go_wp2
      go_ret
      refine ⟨⟨pa, pl, pc, rfl, ?_⟩, HQ.out.2⟩
      have := HQ.out.1
      rw [← HL.out, show (names L).length = (res L).length from List.length_map _, lpTo_all] at this
      exact this

end Go.Proofs.Ytfggkkhehaafcaa
