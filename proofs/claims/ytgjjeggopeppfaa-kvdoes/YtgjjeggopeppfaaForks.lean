/- The program forks a sequence: the contract. -/
import Derived.Test.YtgjjeggopeppfaaRows
import Derived.Test.YtgjjeggopeppfaaPages
import Derived.Test.YtgjjeggopeppfaaBasis
import Derived.Test.YtgjjeggopeppfaaLeast
import Derived.Test.YtgjjeggopeppfaaLays
import Derived.Test.YtgjjeggopeppfaaTurns
import Derived.Test.YtgjjeggopeppfaaGoods
import Derived.Test.YtgjjeggopeppfaaLies
import Derived.Test.YtgjjeggopeppfaaSeqP
import Derived.Test.YtgjjeggopeppfaaSeqRN
import Derived.Test.YtgjjeggopeppfaaReadsB
import Derived.Test.YtgjjeggopeppfaaRooms
import Derived.Test.YtgjjeggopeppfaaPagesOf
import Derived.WalkKit
import Derived.ProofKit
import Derived.OpenShut
import Derived.Below
import Derived.WalkLawsBesides
import Derived.Deep.QuietTactic
import Derived.BigQuiet
import Derived.Laws.OwnMore
import Derived.OwnWalk
namespace Go.Proofs.Ytgjjeggopeppfaa
open Go.ChangeShapes Go.WideShapes Go.ChangeAt Go.RowKit
set_option linter.unusedVariables false
set_option linter.unusedSimpArgs false

theorem Good.shares {m : Nat} {s : Pl} (h : Good m s) (P : List Int) : Good (m + P.length) (P.foldl Ytgjjeggopeppfaa.shS s) := by
  induction P generalizing m s with
  | nil => exact h
  | cons z r ih =>
    have := ih (h.shS z)
    rw [List.foldl_cons, List.length_cons, show m + (r.length + 1) = m + 1 + r.length by omega]
    exact this
theorem Good.drops {m : Nat} {s : Pl} (h : Good m s) (P : List Int) : Good m (P.foldl Ytgjjeggopeppfaa.drS s) := by
  induction P generalizing s with
  | nil => exact h
  | cons z r ih => exact ih (h.drS z)
theorem take_snoc {P : List Int} {k : Nat} (h : k < P.length) : P.take (k + 1) = P.take k ++ [P.getD k 0] := by
  rw [List.take_add_one]
  simp [List.getD, h]
theorem fold_snoc (f : Pl → Int → Pl) (s : Pl) {P : List Int} {k : Nat} (h : k < P.length) : (P.take (k + 1)).foldl f s = f ((P.take k).foldl f s) (P.getD k 0) := by
  rw [take_snoc h, List.foldl_append]
  rfl

/-- behind a fork: a new sequence, in blocks that are new -/
def Forked (B : Nat) (w : World) (b g : Nat) (t : ByteArray) (wd : Nat) (s : Pl) (q : Sq) (x' : Nat) (w' : World) : Prop :=
  ∃ a' c', w.heap.size ≤ x' ∧ (∀ k, blkOf a' k → w.heap.size ≤ k) ∧ PoolAt B w' b g s ∧ SeqAt B w' x' b t wd q a' c' ∧ Off B TP w w'

/-- the cells of a sequence's struct -/
def seqC (b : Nat) (t : ByteArray) (wd : Nat) (q : Sq) (v : Value) : Array Value := #[.pointer (some ⟨b, 0, none⟩), .string t, .int .i64 wd, .int .i64 q.st, .int .i64 q.n, v]

theorem SeqAt.made {B : Nat} {w w' : World} {x b : Nat} {t : ByteArray} {wd : Nat} {q : Sq} {v : Value} (hx : w'.heap[x]? = some (.cells (seqC b t wd q v) 72 (0, 0))) (hB : B ≤ x) (P : List Int) (a' : Option Addr) (c' : Nat) (hp : RowI B w' a' P.length c' P) :
    w'.cell? ⟨x, 5, none⟩ = some v ∧ w'.frozen? ⟨x, 5, none⟩ = false ∧ SeqAt B (w'.setCell ⟨x, 5, none⟩ (.slice a' P.length c')) x b t wd ⟨P, q.st, q.n⟩ a' c' ∧ OffS B (fun _ => false) (fun k => k = x) w' (w'.setCell ⟨x, 5, none⟩ (.slice a' P.length c')) := by
  have ht : Row 72 w' x 6 := ⟨_, hx, rfl⟩
  have os : OffS B (fun _ => false) (fun k => k = x) w' (w'.setCell ⟨x, 5, none⟩ (.slice a' P.length c')) := OffS.set (S := fun k => k = x) hB rfl 5 _
  have cl : ∀ j (hj : j < 6), w'.cell? ⟨x, j, none⟩ = some ((seqC b t wd q v)[j]'hj) := fun j hj => by
    unfold World.cell?
    rw [hx]
    simp [Array.getElem?_eq_getElem (show j < (seqC b t wd q v).size from hj)]
    all_goals rfl
  have o : ∀ j, j ≠ 5 → (w'.setCell ⟨x, 5, none⟩ (.slice a' P.length c')).cell? ⟨x, j, none⟩ = w'.cell? ⟨x, j, none⟩ := fun j hj => World.cell?_setCell_other _ _ _ _ (by simp [hj])
  refine ⟨cl 5 (by decide), ht.open_ 5, ⟨hB, ht.set 5 _, (o 0 (by decide)).trans (cl 0 (by decide)), (o 1 (by decide)).trans (cl 1 (by decide)), (o 2 (by decide)).trans (cl 2 (by decide)), (o 3 (by decide)).trans (cl 3 (by decide)), (o 4 (by decide)).trans (cl 4 (by decide)), World.cell?_setCell_same _ _ _ (cl 5 (by decide)), hp.offS os rfl (fun k hk e => ?_)⟩, os⟩
  obtain ⟨_, m, hr⟩ := hp.block hk
  exact hr.ne ht (by decide) e

theorem fork_call {g m : Nat} {s : Pl} {B : Nat} {w : World} {x b : Nat} {t : ByteArray} {wd : Nat} {q : Sq} {a : Option Addr} {c : Nat} (h : SeqAt B w x b t wd q a c) (hp : PoolAt B w b g s) (hG : Good m s) (hm : m + 1000 ≤ 1000000) (hl : q.P.length ≤ 1000) :
    Calls Try.prog 14 #[.pointer (some ⟨x, 0, none⟩)] w fun e w' => ∃ x', e = .returned (.pointer (some ⟨x', 0, none⟩)) ∧ Forked B w b g t wd (forkS s q) q x' w' := by
  have hB : B ≤ w.heap.size := hp.lt
  have c0 := h.c0
  have c1 := h.c1
  have c2 := h.c2
  have c3 := h.c3
  have c4 := h.c4
  have c5 := h.c5
  obtain ⟨A, eA⟩ : ∃ A, w.alloc (.cells (seqC b t wd q (.slice a q.P.length c)) 72) = A := ⟨_, rfl⟩
  have hbA : Below w.heap.size w A := by rw [← eA]; exact below_new (Below.refl _ w) _
  have hxA : A.heap[w.heap.size]? = some (.cells (seqC b t wd q (.slice a q.P.length c)) 72 (0, 0)) := by rw [← eA]; exact heap_alloc_new w _
  have k30 := pages_call (h.below hbA) hl
  have H := hidden_ h
  have HP := hidden_ hp
  have HG := hidden_ hG
  have HA := hidden_ (And.intro hbA hxA)
  have hsz : A.heap.size = w.heap.size + 1 := by rw [← eA]; simp
  have HB := hidden_ (And.intro hB hsz)
  have hfin : Hid (forkS s q = (q.P.take q.P.length).foldl shS s) := by rw [List.take_length]; exact (rfl : forkS s q = _)
  obtain ⟨Fs, eF⟩ : ∃ Fs, forkS s q = Fs := ⟨_, rfl⟩
  rw [eF] at hfin ⊢
  obtain ⟨L, eL⟩ : ∃ L, q.P.length = L := ⟨_, rfl⟩
  have HL := hidden_ eL
  unfold seqC at eA
  rw [eL] at eA c5 k30 hl hfin
  clear h hp hG hB hbA hxA hsz eF eL
  go_enter Try.func14, Try.ntmps14
  go_wp2_with (first
    | (go_at_call 30; refine k30.mono ?_; rintro e W1 ⟨ra, rc, rfl, hr1, hb1⟩; have HR := hidden_ (And.intro hr1 hb1); obtain ⟨f5, z5, hs5, hos⟩ := SeqAt.made (B := B) (w := w) (w' := W1) (x := w.heap.size) (by rw [hb1.block _ (by have := HB.out.2; omega)]; exact HA.out.2) HB.out.1 q.P ra rc (by have := hr1.mono (show B ≤ A.heap.size by have := HB.out; omega); rw [HL.out]; exact this); rw [HL.out] at f5 hs5 hos; have HS := hidden_ (And.intro hs5 hos); clear hr1 hb1 hs5 hos k30))
  have hbw : Below w.heap.size w (W1.setCell ⟨w.heap.size, 5, none⟩ (.slice ra L rc)) := (HA.out.1.trans (HR.out.2.mono (by have := HB.out.2; omega))).setCell (Nat.le_refl _) _
  have HW := hidden_ hbw
  clear hbw f5 z5 c0 c1 c2 c3 c4 c5 eA
  go_loopw [15] (fun i wr => ∃ k : Nat, k ≤ L ∧ i = .int .i64 k ∧ PoolAt B wr b g ((q.P.take k).foldl shS s) ∧ SeqAt B wr w.heap.size b t wd q ra rc ∧ Off B TP w wr) (fun i _ => L - (intOf i).toNat)
  case atStart => exact ⟨0, Nat.zero_le _, rfl, HP.out.below HW.out, HS.out.1, Off.of_below HW.out⟩
  case round =>
    obtain ⟨k, hk, rfl, hp, hs, ho⟩ := hrel
    have c0 := (H.out.off ho rfl rfl).c0
    by_cases hlt : k < L
    · have hl' : k < q.P.length := by rw [HL.out]; exact hlt
      obtain ⟨y, rfl, hc⟩ := hs.page hl'
      have hg := (HG.out.shares (q.P.take k)).mono (show m + (q.P.take k).length ≤ 1000000 by rw [List.length_take]; omega)
      have k41 := share_call hp hg (Nat.le_refl _) (q.P.getD k 0)
      rw [← fold_snoc shS s hl'] at k41
      obtain ⟨Z, eZ⟩ : ∃ Z, q.P.getD k 0 = Z := ⟨_, rfl⟩
      rw [eZ] at k41 hc
      obtain ⟨E, eE⟩ : ∃ E, shE ((q.P.take k).foldl shS s) Z = E := ⟨_, rfl⟩
      rw [eE] at k41
      have HO := hidden_ (And.intro hs ho)
      clear hp hs ho hg eZ eE hl'
      go_wp2_with (first
        | (go_at_call 41; refine k41.mono ?_; rintro e W3 ⟨rfl, hp3, ho3⟩; have HQ := hidden_ (And.intro hp3 ho3); clear hp3 ho3 k41))
      go_roundw
      case rel => exact ⟨k + 1, by omega, by go_num, HQ.out.1, HO.out.1.off HQ.out.2 rfl rfl, HO.out.2.trans HQ.out.2⟩
      case measure => simp [intOf]; omega
    · have e : k = L := by omega
      subst e
      rw [← hfin.out] at hp
      have HF := hidden_ (And.intro hp (And.intro hs ho))
      clear hp hs ho
      go_wp2
      go_ret
      exact ⟨_, rfl, ra, rc, Nat.le_refl _, fun k hk => Nat.le_trans HA.out.1.size (HR.out.1.block hk).1, HF.out.1, HF.out.2.1, HF.out.2.2⟩

theorem end_call {g m : Nat} {s : Pl} {B : Nat} {w : World} {x b : Nat} {t : ByteArray} {wd : Nat} {q : Sq} {a : Option Addr} {c : Nat} (h : SeqAt B w x b t wd q a c) (hp : PoolAt B w b g s) (hG : Good m s) (hm : m ≤ 1000000) (hl : q.P.length ≤ 1000) :
    Calls Try.prog 18 #[.pointer (some ⟨x, 0, none⟩)] w fun e w' => e = .returned (.tuple #[]) ∧ Did B w x b g t wd a (endS s q) (endQ q) w' := by
  have c5 := h.c5
  have H := hidden_ h
  have HP := hidden_ hp
  have HG := hidden_ hG
  have hfin : Hid (endS s q = (q.P.take q.P.length).foldl drS s) := by rw [List.take_length]; exact (rfl : endS s q = _)
  obtain ⟨Fs, eF⟩ : ∃ Fs, endS s q = Fs := ⟨_, rfl⟩
  rw [eF] at hfin ⊢
  obtain ⟨L, eL⟩ : ∃ L, q.P.length = L := ⟨_, rfl⟩
  have HL := hidden_ eL
  rw [eL] at c5 hl hfin
  clear h hp hG eF eL
  go_enter Try.func18, Try.ntmps18
  go_wp2
  go_loopw [9] (fun i wr => ∃ k : Nat, k ≤ L ∧ i = .int .i64 k ∧ PoolAt B wr b g ((q.P.take k).foldl drS s) ∧ Off B TP w wr) (fun i _ => L - (intOf i).toNat)
  case atStart => exact ⟨0, Nat.zero_le _, rfl, HP.out, Off.refl _ _ _⟩
  case round =>
    obtain ⟨k, hk, rfl, hp, ho⟩ := hrel
    have hs := H.out.off ho rfl rfl
    have c0 := hs.c0
    by_cases hlt : k < L
    · have hl' : k < q.P.length := by rw [HL.out]; exact hlt
      obtain ⟨y, rfl, hc⟩ := hs.page hl'
      have hg := HG.out.drops (q.P.take k)
      have k44 := drop_call hp hg hm (q.P.getD k 0)
      rw [← fold_snoc drS s hl'] at k44
      obtain ⟨Z, eZ⟩ : ∃ Z, q.P.getD k 0 = Z := ⟨_, rfl⟩
      rw [eZ] at k44 hc
      obtain ⟨E, eE⟩ : ∃ E, shE ((q.P.take k).foldl drS s) Z = E := ⟨_, rfl⟩
      rw [eE] at k44
      have HO := hidden_ ho
      clear hp hs ho hg eZ eE hl'
      go_wp2_with (first
        | (go_at_call 44; refine k44.mono ?_; rintro e W3 ⟨rfl, hp3, ho3⟩; have HQ := hidden_ (And.intro hp3 ho3); clear hp3 ho3 k44))
      go_roundw
      case rel => exact ⟨k + 1, by omega, by go_num, HQ.out.1, HO.out.trans HQ.out.2⟩
      case measure => simp [intOf]; omega
    · have e : k = L := by omega
      subst e
      rw [← hfin.out] at hp
      have c4 := hs.c4
      have e5 := hs.c5
      have f5 := hs.top.open_ 5
      obtain ⟨hs1, os1⟩ := hs.setP [] (RowI.nil B wr)
      have c41 := hs1.c4
      have c31 := hs1.c3
      have f3 := hs1.top.open_ 3
      obtain ⟨hs2, os2⟩ := hs1.setSt q.n
      have hop : OffS B (fun _ => false) (fun k => k = x) wr ((wr.setCell ⟨x, 5, none⟩ (.slice none 0 0)).setCell ⟨x, 3, none⟩ (.int .i64 q.n)) := OffS.trans os1 os2 (fun _ z => .inl z)
      have hp2 := hp.of_blocks (hop.row hp.top rfl (hp.top.ne hs.top (by decide))) (hop.row hp.row rfl (hp.row.ne hs.top (by decide)))
      have HF := hidden_ (And.intro hp2 (And.intro hs2 (OffS.trans (ho.toS (Own x a)) (hop.mono (T' := TP) (fun _ _ => rfl) (fun _ z => .inl z)) (fun _ z => .inl z))))
      obtain ⟨st, es⟩ : ∃ st, q.st = st := ⟨_, rfl⟩
      obtain ⟨n, en⟩ : ∃ n, q.n = n := ⟨_, rfl⟩
      simp only [List.length_nil] at HF c41 c31 f3
      rw [en] at c4
      simp only [en, es] at HF c41 c31
      clear hp hs ho hs1 hs2 os1 os2 hop hp2 es
      obtain ⟨W4, eW⟩ : ∃ W4, wr.setCell ⟨x, 5, none⟩ (.slice none 0 0) = W4 := ⟨_, rfl⟩
      rw [eW] at c41 c31 f3 HF
      obtain ⟨W5, eW5⟩ : ∃ W5, W4.setCell ⟨x, 3, none⟩ (.int .i64 n) = W5 := ⟨_, rfl⟩
      rw [eW5] at HF
      have HN := hidden_ en
      clear en
      go_wp2
      go_end0
      exact ⟨rfl, none, 0, HF.out.1, (by have := HF.out.2.1; rw [← HN.out] at this; exact this), (fun k hk => by obtain ⟨_, h, _⟩ := hk; cases h), HF.out.2.2⟩

theorem new_call13 (b : Nat) (t : ByteArray) (wd : Nat) (h0 : ¬ t.toList = []) (h1 : 1 ≤ wd) (h2 : wd ≤ 32) (w : World) :
    Calls Try.prog 9 #[.pointer (some ⟨b, 0, none⟩), .string t, .int .i64 wd] w fun e w' => ∃ x, e = .returned (.tuple #[.pointer (some ⟨x, 0, none⟩), .int .i64 0]) ∧ w.heap.size ≤ x ∧ (∀ B, B ≤ w.heap.size → SeqAt B w' x b t wd ⟨[], 0, 0⟩ none 0) ∧ Below w.heap.size w w' := by
  have q := empty_false h0
  have HB := below_new (Below.refl w.heap.size w) (.cells (seqC b t wd ⟨[], 0, 0⟩ (.slice none 0 0)) 72)
  have hx : (w.alloc (.cells (seqC b t wd ⟨[], 0, 0⟩ (.slice none 0 0)) 72)).heap[w.heap.size]? = some (.cells (seqC b t wd ⟨[], 0, 0⟩ (.slice none 0 0)) 72 (0, 0)) := heap_alloc_new w _
  have cl : ∀ j (hj : j < 6), (w.alloc (.cells (seqC b t wd ⟨[], 0, 0⟩ (.slice none 0 0)) 72)).cell? ⟨w.heap.size, j, none⟩ = some ((seqC b t wd ⟨[], 0, 0⟩ (.slice none 0 0))[j]'hj) := fun j hj => by
    unfold World.cell?
    rw [hx]
    simp [Array.getElem?_eq_getElem (show j < (seqC b t wd ⟨[], 0, 0⟩ (.slice none 0 0)).size from hj)]
    all_goals rfl
  have HF : Hid ((∀ B, B ≤ w.heap.size → SeqAt B (w.alloc (.cells (seqC b t wd ⟨[], 0, 0⟩ (.slice none 0 0)) 72)) w.heap.size b t wd ⟨[], 0, 0⟩ none 0) ∧ Below w.heap.size w (w.alloc (.cells (seqC b t wd ⟨[], 0, 0⟩ (.slice none 0 0)) 72))) :=
    ⟨fun B hB => ⟨hB, ⟨_, hx, rfl⟩, cl 0 (by decide), cl 1 (by decide), cl 2 (by decide), cl 3 (by decide), cl 4 (by decide), cl 5 (by decide), RowI.nil _ _⟩, HB⟩
  unfold seqC at HF
  clear hx cl HB h0
  go_enter Try.func9, Try.ntmps9
  go_wp2
  go_ret2
  exact ⟨_, rfl, Nat.le_refl _, HF.out.1, HF.out.2⟩
theorem new_no13 (b : Nat) (t : ByteArray) (wd : Int) (h : t.toList = [] ∨ wd < 1 ∨ 32 < wd) (w : World) :
    Calls Try.prog 9 #[.pointer (some ⟨b, 0, none⟩), .string t, .int .i64 wd] w fun e w' => e = .returned (.tuple #[.pointer none, .int .i64 20]) ∧ w' = w := by
  by_cases h0 : t.toList = []
  · have q := empty_true h0
    clear h0 h
    go_enter Try.func9, Try.ntmps9
    go_wp2
    go_ret2
    exact ⟨rfl, rfl⟩
  · have q := empty_false h0
    by_cases h1 : wd < 1
    · clear h0 h
      go_enter Try.func9, Try.ntmps9
      go_wp2
      go_ret2
      exact ⟨rfl, rfl⟩
    · have h2 : 32 < wd := by
        rcases h with h | h | h
        · exact absurd h h0
        · exact absurd h h1
        · exact h
      clear h0 h
      go_enter Try.func9, Try.ntmps9
      go_wp2
      go_ret2
      exact ⟨rfl, rfl⟩

end Go.Proofs.Ytgjjeggopeppfaa
