/- The program reads a row of a sequence: the contract. -/
import Derived.Test.YtgjjeggopeppfaaRows
import Derived.Test.YtgjjeggopeppfaaPages
import Derived.Test.YtgjjeggopeppfaaBasis
import Derived.Test.YtgjjeggopeppfaaLeast
import Derived.Test.YtgjjeggopeppfaaLays
import Derived.Test.YtgjjeggopeppfaaTurns
import Derived.Test.YtgjjeggopeppfaaGoods
import Derived.Test.YtgjjeggopeppfaaLies
import Derived.Test.YtgjjeggopeppfaaSeqP
import Derived.Test.YtgjjeggopeppfaaSeqRN
import Derived.Test.YtgjjeggopeppfaaReadsB
import Derived.Test.YtgjjeggopeppfaaRooms
import Derived.WalkKit
import Derived.ProofKit
import Derived.OpenShut
import Derived.Below
import Derived.WalkLawsBesides
import Derived.Deep.QuietTactic
import Derived.BigQuiet
import Derived.Laws.OwnMore
import Derived.OwnWalk
namespace Go.Proofs.Ytgjjeggopeppfaa
open Go.ChangeShapes Go.WideShapes Go.ChangeAt Go.RowKit
set_option linter.unusedVariables false
set_option linter.unusedSimpArgs false

theorem get_ok {s : Pl} {z c : Int} (hu : usedB s z = true) (h0 : 0 ≤ c) (h1 : c < 32) : getE s z c = 0 := by unfold getE; rw [if_pos hu, if_pos ⟨h0, h1⟩]
theorem pageZ_mem {wd : Nat} {q : Sq} (hq : SqOk wd q) {i : Nat} (h0 : q.st ≤ i) (h1 : i < q.n) : pageZ wd q.P q.st i ∈ q.P := getD_mem (page_lt hq h0 h1)

/-- cells of 64 bits are numbers of 64 bits -/
def Wf64 (s : Pl) : Prop := ∀ i j, (Lit.int .i64 ((s.pg i).cell j)).wf = true
theorem Wf64.getV {s : Pl} (h : Wf64 s) (z c : Int) : (Lit.int .i64 (getV s z c)).wf = true := by
  unfold Ytgjjeggopeppfaa.getV
  split
  · exact h _ _
  · exact wf_nought _

theorem row_call {g m : Nat} {s : Pl} {B : Nat} {w : World} {x b : Nat} {t : ByteArray} {wd : Nat} {q : Sq} {a : Option Addr} {c : Nat} (h : SeqAt B w x b t wd q a c) (hp : PoolAt B w b g s) (hG : Good m s) (hq : SqOk wd q) (hu : ∀ z ∈ q.P, usedB s z = true) (hv : Wf64 s) (i : Int) :
    Calls Try.prog 25 #[.pointer (some ⟨x, 0, none⟩), .int .i64 i] w fun e w' => ∃ ra rl rc, e = .returned (.tuple #[.slice ra rl rc, .int .i64 (rowE q i)]) ∧ RowJ w.heap.size w' ra rl rc (rowV wd s q i) ∧ Below w.heap.size w w' := by
  have c3 := h.c3
  have c4 := h.c4
  by_cases h0 : i < q.st
  · have e : rowE q i = 25 := by unfold rowE; rw [if_pos (.inl h0)]
    have e' : rowV wd s q i = [] := by unfold rowV; rw [if_neg (by rw [e]; decide)]
    rw [e, e']
    obtain ⟨st, es⟩ : ∃ st, q.st = st := ⟨_, rfl⟩
    rw [es] at c3 h0
    clear h hp hG hq hu e e' es hv
    go_enter Try.func25, Try.ntmps25
    go_wp2
    go_ret2
    exact ⟨_, _, _, rfl, RowJ.nil _ _, Below.refl _ _⟩
  · by_cases h1 : (q.n : Int) ≤ i
    · have e : rowE q i = 25 := by unfold rowE; rw [if_pos (.inr h1)]
      have e' : rowV wd s q i = [] := by unfold rowV; rw [if_neg (by rw [e]; decide)]
      rw [e, e']
      obtain ⟨st, es⟩ : ∃ st, q.st = st := ⟨_, rfl⟩
      rw [es] at c3 h0
      obtain ⟨n, en⟩ : ∃ n, q.n = n := ⟨_, rfl⟩
      rw [en] at c4 h1
      clear h hp hG hq hu e e' es en hv
      go_enter Try.func25, Try.ntmps25
      go_wp2
      go_ret2
      exact ⟨_, _, _, rfl, RowJ.nil _ _, Below.refl _ _⟩
    · obtain ⟨I, rfl⟩ : ∃ I : Nat, i = (I : Int) := ⟨i.toNat, by omega⟩
      have e : rowE q I = 0 := by unfold rowE; rw [if_neg (by omega)]
      have e' : rowV wd s q I = (List.range wd).map fun (k : Nat) => getV s (pageZ wd q.P q.st I) (((cellN wd q.st I : Nat) : Int) + (k : Int)) := by unfold rowV; rw [if_pos e, Int.toNat_natCast]
      rw [e, e']
      have i0 : q.st ≤ I := by omega
      have i1 : I < q.n := by omega
      have hf := hq.few
      have k32 := place_call13 h ⟨hq.w0, hq.w1⟩ I i0 (by omega) (page_lt hq i0 i1)
      have hm := hu _ (pageZ_mem hq i0 i1)
      have hcl := hidden_ fun k hk => cell_lt hq.w0 hq.w1 q.st I k hk
      obtain ⟨Z, eZ⟩ : ∃ Z, pageZ wd q.P q.st I = Z := ⟨_, rfl⟩
      obtain ⟨C, eC⟩ : ∃ C, cellN wd q.st I = C := ⟨_, rfl⟩
      rw [eZ] at k32 hm
      rw [eC] at k32
      simp only [eC] at hcl
      simp only [eZ, eC]
      have w0 := hq.w0
      have w1 := hq.w1
      have c2 := h.c2
      have H := hidden_ h
      have HP := hidden_ hp
      have HG := hidden_ hG.n1
      have HU := hidden_ hm
      have HF : Hid (∀ k : Nat, (Lit.int .i64 (getV s Z ((C : Int) + (k : Int)))).wf = true) := fun k => hv.getV _ _
      obtain ⟨F, eF⟩ : ∃ F : Nat → Int, (fun k : Nat => getV s Z ((C : Int) + (k : Int))) = F := ⟨_, rfl⟩
      have HE := hidden_ eF
      rw [eF]
      obtain ⟨st, es⟩ : ∃ st, q.st = st := ⟨_, rfl⟩
      rw [es] at c3 h0
      obtain ⟨n, en⟩ : ∃ n, q.n = n := ⟨_, rfl⟩
      rw [en] at c4 h1
      obtain ⟨it, hi, hz0, hz1, hz2⟩ := info_parts info2
      clear h hp hG hq hu e e' es en i0 i1 hf hm eZ eC eF hv
      go_enter Try.func25, Try.ntmps25
      go_wp2_with (first
        | (go_at_call 32; refine k32.mono ?_; rintro e W2 ⟨rfl, m2, h2⟩; have c2' : W2.cell? ⟨x, 2, none⟩ = some (.int .i64 wd) := (by rw [h2]; exact c2); have HW := hidden_ h2; clear h2 k32)
        | (at_make; refine wpList_make_full _ rfl (.tmp 35) (.tmp 35) 39 rfl W2.heap.size 2 it (.int .i64 0) 1 Try.underlying39 hi hz0 hz1 .i64 .i64 _ _ wd rfl rfl rfl rfl (by rw [hz2]; omega) (by unfold maxLen; omega) (Nat.le_refl _) ?_; intro w1' hown hgrow))
      have hbel : Below W2.heap.size W2 w1' := (Below.refl _ _).grown hgrow (Nat.le_refl _) (fun k h => by cases h)
      go_loopw [39] (fun i wr => ∃ k : Nat, k ≤ wd ∧ i = .int .i64 k ∧ Below W2.heap.size W2 wr ∧ ∃ cs, wr.ownsRow W2.heap.size 2 1 (.slice (some ⟨W2.heap.size, 0, none⟩) wd wd) wd cs ∧ ∀ j, j < k → cs[j]? = some (.int .i64 (F j))) (fun i _ => wd - (intOf i).toNat)
      case atStart => exact ⟨0, Nat.zero_le _, rfl, hbel, _, hown, fun j hj => by omega⟩
      case round =>
        clear hown hgrow hbel
        obtain ⟨k, hk, rfl, hbr, cs, ho, hcs⟩ := hrel
        have hbw : Below w.heap.size w wr := by
          have := hbr
          rw [HW.out] at this
          exact ⟨this.os, this.tape, this.output, this.size, this.block⟩
        by_cases hlt : k < wd
        · have c0 := (H.out.below hbw).c0
          have k53 := get_call (HP.out.below hbw) HG.out Z ((C : Int) + (k : Int))
          have hc := hcl.out k hlt
          rw [get_ok HU.out (by omega) (by omega), show getV s Z ((C : Int) + (k : Int)) = F k by rw [← HE.out]] at k53
          have hlen := own_length ho
          have cell : wr.cell? ⟨W2.heap.size, k, none⟩ = cs[k]? := ho.cellAt k (by omega)
          obtain ⟨u, hu⟩ : ∃ u, cs[k]? = some u := ⟨cs[k], by simp [hlen, hlt]⟩
          rw [hu] at cell
          have froz := ho.frozenAt k
          have R : Hid (Below W2.heap.size W2 (wr.setCell ⟨W2.heap.size, k, none⟩ (.int .i64 (F k))) ∧ ∃ cs', (wr.setCell ⟨W2.heap.size, k, none⟩ (.int .i64 (F k))).ownsRow W2.heap.size 2 1 (.slice (some ⟨W2.heap.size, 0, none⟩) wd wd) wd cs' ∧ ∀ j, j < k + 1 → cs'[j]? = some (.int .i64 (F j))) :=
            ⟨hbr.setCell (Nat.le_refl _) _, _, (ho.stored k _).1, set_step (F := fun j => Value.int .i64 (F j)) hlen hlt rfl hcs⟩
          obtain ⟨V, eV⟩ : ∃ V, F k = V := ⟨_, rfl⟩
          rw [eV] at k53 R
          clear hcs ho hu hlen hbr hbw eV
          go_wp2_with (first
            | (go_at_call 53; refine k53.mono ?_; rintro e W4 ⟨rfl, h4⟩; obtain rfl := h4.symm; clear k53))
          go_roundw
          case rel => exact ⟨k + 1, by omega, by go_num, R.out⟩
          case measure => simp [intOf]; omega
        · have e : k = wd := by omega
          subst e
          have hcl : cs = ((List.range k).map F).map (Value.int .i64) := by
            apply List.ext_getElem?
            intro j
            by_cases hj : j < k
            · rw [hcs j hj]; simp [hj]
            · rw [List.getElem?_eq_none (by rw [own_length ho]; omega), List.getElem?_eq_none (by simp; omega)]
          have fin : Hid (RowJ w.heap.size wr (some ⟨W2.heap.size, 0, none⟩) k k ((List.range k).map F) ∧ Below w.heap.size w wr) := by
            refine ⟨⟨by simp, ?_, fun z hz => ?_⟩, hbw⟩
            · rw [← hcl]
              have e2 : W2.heap.size = w.heap.size := by rw [HW.out]; rfl
              rw [e2] at ho ⊢
              exact ho
            · obtain ⟨j, hj, rfl⟩ := List.mem_map.1 hz
              rw [← HE.out]
              exact HF.out j
          clear hcs ho hcl hbr hbw
          go_wp2
          go_ret2
          exact ⟨_, _, _, rfl, fin.out.1, fin.out.2⟩

end Go.Proofs.Ytgjjeggopeppfaa
