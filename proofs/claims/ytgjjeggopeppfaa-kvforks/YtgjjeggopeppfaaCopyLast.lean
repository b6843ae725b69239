/- The program copies the last page into another one, which stands in its place then: the contract. -/
import Derived.Test.YtgjjeggopeppfaaRows
import Derived.Test.YtgjjeggopeppfaaPages
import Derived.Test.YtgjjeggopeppfaaView
import Derived.Test.YtgjjeggopeppfaaOwn
import Derived.Test.YtgjjeggopeppfaaLeast
import Derived.Test.YtgjjeggopeppfaaLays
import Derived.Test.YtgjjeggopeppfaaTurns
import Derived.Test.YtgjjeggopeppfaaGoods
import Derived.Test.YtgjjeggopeppfaaSeqs
import Derived.Test.YtgjjeggopeppfaaSeqAt
import Derived.Test.YtgjjeggopeppfaaSeqRd
import Derived.Test.YtgjjeggopeppfaaSeqNeed
import Derived.Test.YtgjjeggopeppfaaReadsP
import Derived.Test.YtgjjeggopeppfaaReadsQ
import Derived.WalkKit
import Derived.ProofKit
import Derived.OpenShut
import Derived.Below
import Derived.WalkLawsBesides
import Derived.Deep.QuietTactic
import Derived.BigQuiet
import Derived.Laws.OwnMore
namespace Go.Proofs.Ytgjjeggopeppfaa
open Go.ChangeShapes Go.WideShapes Go.ChangeAt Go.RowKit
set_option linter.unusedVariables false
set_option linter.unusedSimpArgs false

/-- a number of the row is another -/
theorem SeqAt.put {B : Nat} {w : World} {x b : Nat} {t : ByteArray} {wd : Nat} {q : Sq} {a : Option Addr} {c : Nat} (h : SeqAt B w x b t wd q a c) {i : Nat} (hi : i < q.P.length) (z : Int) (hz : (Lit.int .i64 z).wf = true) :
    ∃ y, a = some y ∧ w.cell? (y.add i) = some (.int .i64 (q.P.getD i 0)) ∧ w.frozen? (y.add i) = false ∧ SeqAt B (w.setCell (y.add i) (.int .i64 z)) x b t wd ⟨q.P.set i z, q.st, q.n⟩ a c ∧ OffS B (fun _ => false) (Own x a) w (w.setCell (y.add i) (.int .i64 z)) := by
  obtain ⟨y, ey, hc⟩ := h.page hi
  refine ⟨y, ey, hc, ?_⟩
  have ho := h.pg.own
  rcases ho.2 with ⟨h1, _⟩ | ⟨g, cap, cur, h1, h2, h3, h4⟩
  · rw [ey] at h1; cases h1
  · simp only [Value.slice.injEq] at h1
    obtain ⟨e1, _, e2⟩ := h1
    have ey' := ey
    rw [e1] at ey'
    obtain rfl := Option.some.inj ey'
    rw [e1, e2] at ho
    rw [add_zero_at]
    obtain ⟨hs, _⟩ := ho.stored i (.int .i64 z)
    have hb : blkOf a g := ⟨_, e1, rfl⟩
    have os : OffS B (fun _ => false) (Own x a) w (w.setCell ⟨g, i, none⟩ (.int .i64 z)) := OffS.set h2 (.inr hb) i _
    obtain ⟨_, m, hr⟩ := h.pg.block hb
    have hx : (w.setCell ⟨g, i, none⟩ (.int .i64 z)).heap[x]? = w.heap[x]? := Below.heap_setCell w _ _ x (h.top.ne hr (by decide))
    refine ⟨ho.frozenAt i, ⟨h.Bx, h.top.of_block hx, (cell_of_block hx 0).trans h.c0, (cell_of_block hx 1).trans h.c1, (cell_of_block hx 2).trans h.c2, (cell_of_block hx 3).trans h.c3, (cell_of_block hx 4).trans h.c4, ?_, ⟨rfl, ?_, fun u hu => ?_⟩⟩, os⟩
    · show _ = some (Value.slice a (q.P.set i z).length c)
      rw [List.length_set]
      exact (cell_of_block hx 5).trans h.c5
    · rw [e1, e2]
      show World.ownsRow _ B 3 1 (.slice _ (q.P.set i z).length _) (q.P.set i z).length ((q.P.set i z).map (Value.int .i64))
      rw [List.length_set, List.map_set]
      exact hs
    · rcases List.mem_or_eq_of_mem_set hu with hu | rfl
      · exact h.pg.wf u hu
      · exact hz

theorem Good.copyTo {m : Nat} {s : Pl} (h : Good m s) (x y : Int) (k : Nat) : Good m (copyTo s x y k) := by
  induction k with
  | zero => exact h
  | succ k ih => exact ih.putS _ _ _
theorem Good.rowTo {m : Nat} {s : Pl} (h : Good m s) (z c : Int) (zs : List Int) (k : Nat) : Good m (rowTo s z c zs k) := by
  induction k with
  | zero => exact h
  | succ k ih => exact ih.putS _ _ _

theorem copyLast_call {g m : Nat} {s : Pl} {B : Nat} {w : World} {x b : Nat} {t : ByteArray} {wd : Nat} {q : Sq} {a : Option Addr} {c : Nat} (h : SeqAt B w x b t wd q a c) (hp : PoolAt B w b g s) (hG : Good m s) (hm : m ≤ 1000000) (hl : 0 < q.P.length) (hl' : q.P.length ≤ 1000) (y : Int) (hy : (Lit.int .i64 y).wf = true) :
    Calls Try.prog 58 #[.pointer (some ⟨x, 0, none⟩), .int .i64 y] w fun e w' => e = .returned (.tuple #[]) ∧ PoolAt B w' b g (drS (copyTo s (lastZ q.P) y 32) (lastZ q.P)) ∧ SeqAt B w' x b t wd ⟨q.P.set (q.P.length - 1) y, q.st, q.n⟩ a c ∧ OffS B TP (Own x a) w w' := by
  have k56 := last_call h hl hl'
  have H := hidden_ h
  have HG := hidden_ hG
  have HP := hidden_ hp
  have HY := hidden_ hy
  obtain ⟨Z, eZ⟩ : ∃ Z, lastZ q.P = Z := ⟨_, rfl⟩
  rw [eZ] at k56 ⊢
  obtain ⟨y0, rfl, _⟩ := h.page (i := q.P.length - 1) (by omega)
  obtain ⟨L, eL⟩ : ∃ L, q.P.length - 1 = L := ⟨_, rfl⟩
  rw [eL]
  have HL := hidden_ (show L + 1 = q.P.length by omega)
  obtain ⟨D, eD⟩ : ∃ D, drS (copyTo s Z y 32) Z = D := ⟨_, rfl⟩
  rw [eD]
  have HD := hidden_ eD
  have hl2 : L ≤ 1000 := by omega
  clear h hG hp hy eZ eL eD hl hl'
  go_enter Try.func58, Try.ntmps58
  go_wp2_with (first | (go_at_call 56; refine k56.mono ?_; rintro e W1 ⟨rfl, m1, h1⟩; have HW := hidden_ h1; clear h1 k56))
  go_loopw [10] (fun i wr => ∃ k : Nat, k ≤ 32 ∧ i = .int .i64 k ∧ PoolAt B wr b g (copyTo s Z y k) ∧ Off B TP w wr) (fun i _ => 32 - (intOf i).toNat)
  case atStart => exact ⟨0, by omega, rfl, by rw [HW.out]; exact HP.out.drewN m1, by rw [HW.out]; exact (Off.refl _ _ _).drewN m1⟩
  case round =>
    obtain ⟨k, hk, rfl, hp, ho⟩ := hrel
    have c0 := (H.out.off ho rfl rfl).c0
    by_cases hlt : k < 32
    · have hGk := HG.out.copyTo Z y k
      have k53 := get_call hp hGk.n1 Z k
      have k33 := fun v => put_call hp hGk y k v
      have e : putS (copyTo s Z y k) y k (getV (copyTo s Z y k) Z k) = copyTo s Z y (k + 1) := rfl
      obtain ⟨V, eV⟩ : ∃ V, getV (copyTo s Z y k) Z k = V := ⟨_, rfl⟩
      obtain ⟨E, eE⟩ : ∃ E, getE (copyTo s Z y k) Z k = E := ⟨_, rfl⟩
      obtain ⟨E', eE'⟩ : ∃ E', getE (copyTo s Z y k) y k = E' := ⟨_, rfl⟩
      replace k33 := k33 V
      rw [eV] at e k53
      rw [eE] at k53
      rw [e, eE'] at k33
      clear e eV eE eE' hGk
      have HO := hidden_ ho
      clear ho hp
      go_wp2_with (first
        | (go_at_call 53; refine k53.mono ?_; rintro e W2 ⟨rfl, h2⟩; obtain rfl := h2.symm; clear k53)
        | (go_at_call 33; refine k33.mono ?_; rintro e W3 ⟨rfl, hp3, ho3⟩; have HR := hidden_ (And.intro hp3 ho3); clear hp3 ho3))
      go_roundw
      case rel => exact ⟨k + 1, by omega, by go_num, HR.out.1, HO.out.trans HR.out.2⟩
      case measure => simp [intOf]; omega
    · have e : k = 32 := by omega
      subst e
      have k44 := drop_call hp (HG.out.copyTo Z y 32) hm Z
      have HO := hidden_ ho
      clear hp ho
      rw [HD.out] at k44
      obtain ⟨E, eE⟩ : ∃ E, shE (copyTo s Z y 32) Z = E := ⟨_, rfl⟩
      rw [eE] at k44
      clear eE
      go_wp2_with (first
        | (go_at_call 44; refine k44.mono ?_; rintro e W3 ⟨rfl, hp3, ho3⟩; have HR := hidden_ (And.intro hp3 (HO.out.trans ho3)); clear hp3 ho3 k44))
      have h3 := H.out.off HR.out.2 rfl rfl
      obtain ⟨y1, ey, hc, hf, hs, hos⟩ := h3.put (i := L) (by have := HL.out; omega) y HY.out
      obtain rfl := Option.some.inj ey
      have c5 := h3.c5
      rw [← HL.out] at c5
      obtain ⟨V, eV⟩ : ∃ V, q.P.getD L 0 = V := ⟨_, rfl⟩
      rw [eV] at hc
      have hne := HR.out.1.off (OffS.off hos h3) rfl rfl
      have HS := hidden_ (And.intro hne (And.intro hs (OffS.trans (HR.out.2.toS (Own x (some y0))) (hos.mono (fun _ _ => rfl) (fun _ z => z)) (fun _ z => .inl z))))
      have eI : ((L + 1 : Nat) : Int) - 1 = (L : Int) := by omega
      clear hs hos h3 eV c0 hne
      go_wp2
      go_region
      go_wp2
      go_end0
      exact ⟨rfl, HS.out.1.drewN 1, HS.out.2.1.drewN 1, HS.out.2.2.drewN 1⟩

end Go.Proofs.Ytgjjeggopeppfaa
