/- A row that is handed in, beside the pool of the document. -/
import Derived.Test.YtgjjeggopeppfaaRows
import Derived.Test.YtgjjeggopeppfaaPages
import Derived.Test.YtgjjeggopeppfaaBasis
import Derived.Test.YtgjjeggopeppfaaLeast
import Derived.Test.YtgjjeggopeppfaaLays
import Derived.Test.YtgjjeggopeppfaaTurns
import Derived.Test.YtgjjeggopeppfaaGoods
import Derived.Test.YtgjjeggopeppfaaRefA
import Derived.Test.YtgjjeggopeppfaaRefTk
import Derived.Test.YtgjjeggopeppfaaRefTurns
import Derived.Test.YtgjjeggopeppfaaLies
import Derived.Test.YtgjjeggopeppfaaSeqP
import Derived.Test.YtgjjeggopeppfaaSeqRN
import Derived.Test.YtgjjeggopeppfaaReadsB
import Derived.Test.YtgjjeggopeppfaaForks
import Derived.Test.YtgjjeggopeppfaaRooms
import Derived.Test.YtgjjeggopeppfaaDocAt
import Derived.Test.YtgjjeggopeppfaaDocRd
import Derived.Test.YtgjjeggopeppfaaDocKeep
import Derived.Test.YtgjjeggopeppfaaRegPg
import Derived.Test.YtgjjeggopeppfaaRegAB
import Derived.WalkKit
import Derived.ProofKit
import Derived.OpenShut
import Derived.Below
import Derived.WalkLawsBesides
import Derived.Deep.QuietTactic
import Derived.BigQuiet
namespace Go.Proofs.Ytgjjeggopeppfaa
open Go.ChangeShapes Go.WideShapes Go.ChangeAt Go.RowKit
set_option linter.unusedVariables false
set_option linter.unusedSimpArgs false

theorem run_store49 {w : World} {p : Addr} {u : Value} {a : Option Addr} {n c : Nat} (h : w.cell? p = some u) (hf : w.frozen? p = false) : (Instr.storeAt 49 (.pointer (some p)) (.slice a n c)).run Try.prog w = .ok () (w.setCell p (.slice a n c)) := by
  go_simp
theorem run_cut49 (X : Addr) (n c k : Nat) (hk : k ≤ n) (hc : n ≤ c) (w : World) : (Instr.sliceAt 49 (.slice (some X) n c) none (some (.int .i64 (k : Nat))) none).run Try.prog w = .ok (.slice (some X) k c) w := by
  have h1 : k ≤ c := Nat.le_trans hk hc
  go_simp

theorem RowI.caps {B : Nat} {w : World} {a : Option Addr} {l c : Nat} {zs : List Int} (h : RowI B w a l c zs) : c ≤ 9223372036854775807 ∧ (a = none → c = 0) := by
  rcases h.own.2 with ⟨h1, _⟩ | ⟨g, cap, cur, h1, h2, h3, h4, h5, _⟩
  · simp only [Value.slice.injEq] at h1
    exact ⟨by omega, fun _ => h1.2.2⟩
  · simp only [Value.slice.injEq] at h1
    refine ⟨by rw [h1.2.2]; unfold maxLen at h5; omega, fun e => by rw [h1.1] at e; cases e⟩

/-- a row of numbers that is handed in lies in no page of the pool -/
structure Apart (B : Nat) (w : World) (ra : Option Addr) (rl : Nat) (zs : List Int) (s : Pl) (r : Nat → Nat) : Prop where
  reads : Reads .i64 w ra rl zs
  lt : ∀ k, blkOf ra k → k < w.heap.size
  ty : ∀ k, blkOf ra k → k < B ∨ ∃ m, Row 2 w k m
  ne : ∀ k, blkOf ra k → ∀ i, i < s.n → (s.pg i).ow ≠ 0 → r i ≠ k
theorem Apart.blocks {B : Nat} {w w' : World} {ra : Option Addr} {rl : Nat} {zs : List Int} {s s' : Pl} {r r' : Nat → Nat} (h : Apart B w ra rl zs s r) (hz : w.heap.size ≤ w'.heap.size) (e : ∀ k, blkOf ra k → w'.heap[k]? = w.heap[k]?) (hn : s'.n = s.n) (hf : Fresh w.heap.size s s' r r') : Apart B w' ra rl zs s' r' :=
  ⟨reads_block h.reads e, fun k hk => Nat.lt_of_lt_of_le (h.lt k hk) hz, fun k hk => (h.ty k hk).imp id fun ⟨m, hm⟩ => ⟨m, hm.of_block (e k hk)⟩, fun k hk i hi hu => by
    rcases hf i hi hu with ⟨h1, h2⟩ | h1
    · rw [h2]; exact h.ne k hk i (by omega) h1
    · have := h.lt k hk
      omega⟩
theorem Apart.off {B : Nat} {T : TypeId → Bool} {w w' : World} {ra : Option Addr} {rl : Nat} {zs : List Int} {s s' : Pl} {r r' : Nat → Nat} (h : Apart B w ra rl zs s r) (o : Off B T w w') (hT : T 2 = false) (hn : s'.n = s.n) (hf : Fresh w.heap.size s s' r r') : Apart B w' ra rl zs s' r' :=
  h.blocks o.size (fun k hk => o.block k (h.lt k hk) ((h.ty k hk).imp id fun ⟨m, hm⟩ t' ht => by rw [hm.type] at ht; obtain rfl := Option.some.inj ht; exact hT)) hn hf
theorem Apart.below {B : Nat} {w w' : World} {ra : Option Addr} {rl : Nat} {zs : List Int} {s : Pl} {r : Nat → Nat} (h : Apart B w ra rl zs s r) (o : Below w.heap.size w w') : Apart B w' ra rl zs s r :=
  h.blocks o.size (fun k hk => o.block k (h.lt k hk)) rfl (Fresh.refl _ _ _)
theorem Apart.drewN {B : Nat} {w : World} {ra : Option Addr} {rl : Nat} {zs : List Int} {s : Pl} {r : Nat → Nat} (h : Apart B w ra rl zs s r) (m : Nat) : Apart B (w.drewN m) ra rl zs s r :=
  h.blocks (Nat.le_refl _) (fun _ _ => rfl) rfl (Fresh.refl _ _ _)
theorem Apart.setX {B : Nat} {w w' : World} {ra : Option Addr} {rl : Nat} {zs : List Int} {s : Pl} {r : Nat → Nat} {x : Nat} (h : Apart B w ra rl zs s r) (o : OffS B (fun _ => false) (fun k => k = x) w w') (hx : Row 51 w x 6) (hB : B ≤ x) : Apart B w' ra rl zs s r :=
  h.blocks o.size (fun k hk => o.block k (h.lt k hk) (by
    by_cases hk' : k < B
    · exact .inl hk'
    · rcases h.ty k hk with h1 | ⟨m, hm⟩
      · exact .inl h1
      · exact .inr ⟨hm.ne hx (by decide), fun _ _ => rfl⟩)) rfl (Fresh.refl _ _ _)
theorem putS_n (s : Pl) (z c v : Int) : (putS s z c v).n = s.n := by unfold putS; split <;> rfl
theorem fresh_putS (m : Nat) (s : Pl) (z c v : Int) (r : Nat → Nat) : Fresh m s (putS s z c v) r r := by
  intro i hi hu
  refine .inl ⟨fun e => hu ?_, rfl⟩
  unfold putS
  split
  · by_cases ei : i = z.toNat
    · subst ei; simp only [upd_same]; exact e
    · simp only [upd_other _ _ _ _ ei]; exact e
  · exact e
theorem drS_n (s : Pl) (z : Int) : (drS s z).n = s.n := by unfold drS; split <;> rfl
theorem fresh_drS (m : Nat) (s : Pl) (z : Int) (r : Nat → Nat) : Fresh m s (drS s z) r r := by
  intro i hi hu
  refine .inl ⟨fun e => hu ?_, rfl⟩
  unfold drS
  split
  · rename_i hz
    by_cases ei : i = z.toNat
    · subst ei; exact absurd e (used_of hz).2.2
    · simp only [upd_other _ _ _ _ ei]; exact e
  · exact e
theorem takeS_n (s : Pl) (t : ByteArray) (k : Int) : (takeS s t k).n = s.n := by unfold takeS; split <;> rfl
theorem Apart.put {B : Nat} {w w' : World} {ra : Option Addr} {rl : Nat} {zs : List Int} {s : Pl} {r : Nat → Nat} (h : Apart B w ra rl zs s r) (z c v : Int) (hz : w.heap.size ≤ w'.heap.size) (e : ∀ k, (usedB s z = true → k ≠ r z.toNat) → w'.heap[k]? = w.heap[k]?) : Apart B w' ra rl zs (putS s z c v) r :=
  h.blocks hz (fun k hk => e k fun hu => by
    obtain ⟨h0, h1, h2⟩ := used_of hu
    exact fun e' => h.ne k hk z.toNat (by omega) h2 e'.symm) (putS_n _ _ _ _) (fresh_putS _ _ _ _ _ _)

/-- what stands where the row is about to be laid -/
def Stands (B : Nat) (w : World) (x b g : Nat) (t : ByteArray) (wd : Nat) (a : Option Addr) (s : Pl) (q : Sq) (ra : Option Addr) (rl : Nat) (zs : List Int) (W : World) : Prop :=
  ∃ r', RefAt B W b g s r' ∧ (∃ a' c', DocAt B W x b t wd q a' c' ∧ (∀ k, blkOf a' k → blkOf a k ∨ w.heap.size ≤ k)) ∧ OffS B TR (fun k => k = x) w W ∧ Apart B W ra rl zs s r'
theorem Stands.drewN {B : Nat} {w : World} {x b g : Nat} {t : ByteArray} {wd : Nat} {a : Option Addr} {s : Pl} {q : Sq} {ra : Option Addr} {rl : Nat} {zs : List Int} {W : World} (h : Stands B w x b g t wd a s q ra rl zs W) (m : Nat) : Stands B w x b g t wd a s q ra rl zs (W.drewN m) := by
  obtain ⟨r', h1, ⟨a', c', h2, h3⟩, h4, h5⟩ := h
  exact ⟨r', h1.drewN m, ⟨a', c', h2.drewN m, h3⟩, h4.drewN m, h5.drewN m⟩

theorem doc_new {B : Nat} {w w0 : World} {x b g : Nat} {t : ByteArray} {wd : Nat} {q : Sq} {a a0 : Option Addr} {c : Nat} {s : Pl} {r : Nat → Nat} {ra : Option Addr} {rl : Nat} {zs : List Int} (h : DocAt B w0 x b t wd q a0 c) (hp : RefAt B w0 b g s r) (ha : Apart B w0 ra rl zs s r) (ho : OffS B TR (fun k => k = x) w w0) (P1 : List Int) (L : Nat) (hL : P1.length = L) :
    ∀ W ca cc, Below w0.heap.size w0 W → RowI w0.heap.size W ca L cc P1 → (Instr.storeAt 49 (.pointer (some ⟨x, 3, none⟩)) (.slice ca L cc)).run Try.prog W = .ok () (W.setCell ⟨x, 3, none⟩ (.slice ca L cc)) ∧ Stands B w x b g t wd a s ⟨P1, q.st, q.n⟩ ra rl zs (W.setCell ⟨x, 3, none⟩ (.slice ca L cc)) := by
  intro W ca cc hb hr
  subst hL
  have ex : W.heap[x]? = w0.heap[x]? := hb.block x h.top.lt
  obtain ⟨n1, n2, n3, n4⟩ := h.newP ex P1 hr.reads (fun k hk => (hr.block hk).2) (own_cap hr.own) hr.caps.1 hr.caps.2
  have p1 := hp.below hb
  have tx : Row 51 W x 6 := h.top.of_block ex
  refine ⟨run_store49 n1 n2, r, p1.of_blocks (n4.row p1.top rfl (p1.top.ne tx (by decide))) (n4.row p1.row rfl (p1.row.ne tx (by decide))) (fun i hi hu => n4.row (p1.cr i hi hu).1 rfl ((p1.cr i hi hu).1.ne tx (by decide))), ⟨ca, cc, n3, fun k hk => .inr (Nat.le_trans ho.size (hr.block hk).1)⟩, ?_, (ha.below hb).setX n4 tx h.Bx⟩
  exact OffS.trans ho (OffS.trans ((Off.of_below (B := B) (T := TR) hb).toS (fun k => k = x)) (n4.mono (T' := TR) (S' := fun k => k = x) (fun _ _ => rfl) (fun _ z => z)) (fun _ z => .inl z)) (fun _ z => .inl z)
theorem set_last (P : List Int) (L : Nat) (h : P.length = L + 1) (Y : Int) : P.take L ++ [Y] = P.set L Y := by
  apply List.ext_getElem
  · simp [h]
  · intro i h1 h2
    simp [h] at h1 h2
    by_cases e : i = L
    · subst e; simp [h]
    · rw [List.getElem_append_left (by simp [h]; omega), List.getElem_set_ne (by omega)]
      simp

end Go.Proofs.Ytgjjeggopeppfaa
