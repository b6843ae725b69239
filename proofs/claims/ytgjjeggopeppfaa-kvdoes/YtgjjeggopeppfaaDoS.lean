/- KvDoes between two acts: its state and its steps. -/
import Derived.Test.YtgjjeggopeppfaaRows
import Derived.Test.YtgjjeggopeppfaaPages
import Derived.Test.YtgjjeggopeppfaaBasis
import Derived.Test.YtgjjeggopeppfaaLeast
import Derived.Test.YtgjjeggopeppfaaLays
import Derived.Test.YtgjjeggopeppfaaTurns
import Derived.Test.YtgjjeggopeppfaaGoods
import Derived.Test.YtgjjeggopeppfaaRefA
import Derived.Test.YtgjjeggopeppfaaRefTk
import Derived.Test.YtgjjeggopeppfaaRefLays
import Derived.Test.YtgjjeggopeppfaaRefTurns
import Derived.Test.YtgjjeggopeppfaaLies
import Derived.Test.YtgjjeggopeppfaaSeqP
import Derived.Test.YtgjjeggopeppfaaSeqRN
import Derived.Test.YtgjjeggopeppfaaReadsB
import Derived.Test.YtgjjeggopeppfaaForks
import Derived.Test.YtgjjeggopeppfaaRooms
import Derived.Test.YtgjjeggopeppfaaDocAt
import Derived.Test.YtgjjeggopeppfaaDocRd
import Derived.Test.YtgjjeggopeppfaaDocKeep
import Derived.Test.YtgjjeggopeppfaaRegPg
import Derived.Test.YtgjjeggopeppfaaRegAB
import Derived.Test.YtgjjeggopeppfaaDocAp0
import Derived.Test.YtgjjeggopeppfaaSmalls
import Derived.Test.YtgjjeggopeppfaaKeep
import Derived.Test.YtgjjeggopeppfaaManys
import Derived.Test.YtgjjeggopeppfaaSeqsIn
import Derived.Test.YtgjjeggopeppfaaRows13
import Derived.Test.YtgjjeggopeppfaaSameP
import Derived.Test.YtgjjeggopeppfaaDocApp
import Derived.Test.YtgjjeggopeppfaaDocFork
import Derived.Test.YtgjjeggopeppfaaRegSS
import Derived.Test.YtgjjeggopeppfaaBothIn
import Derived.Test.YtgjjeggopeppfaaNews
import Derived.Test.YtgjjeggopeppfaaOpenOps
import Derived.Test.YtgjjeggopeppfaaFkSE
import Derived.WalkKit
import Derived.ProofKit
import Derived.OpenShut
import Derived.Below
import Derived.WalkLawsBesides
import Derived.Deep.QuietTactic
import Derived.BigQuiet
import Derived.Deep.RegionHeld3
import Derived.Deep.RegionWith
namespace Go.Proofs.Ytgjjeggopeppfaa
open Go.ChangeShapes Go.WideShapes Go.ChangeAt Go.RowKit
set_option linter.unusedVariables false
set_option linter.unusedSimpArgs false

/-- KvDoes between two acts -/
structure DoS (B : Nat) (w wr : World) (b g b2 g2 : Nat) (t : ByteArray) (wd N K : Nat) (s : Pl) (Q : Nat → Sq) (X X2 r : Nat → Nat) (v16 v17 : Value) (k : Nat) : Prop where
  both : BothIn B wr b g b2 g2 t wd s s K K Q Q X X2 r
  many : Many N t wd s K Q
  own16 : wr.ownsRow B 31 1 v16 K (ptrs X K)
  own17 : wr.ownsRow B 34 1 v17 K (ptrs X2 K)
  pos : 1 ≤ K
  below : Below B w wr
  few : ∀ j, j < K → (Q j).n ≤ k
variable {B : Nat} {w W0 : World} {b g b2 g2 : Nat} {t : ByteArray} {wd N K : Nat} {s : Pl} {Q : Nat → Sq} {X X2 r : Nat → Nat} {v16 v17 : Value} {k : Nat}
theorem DoS.next (h : DoS B w W0 b g b2 g2 t wd N K s Q X X2 r v16 v17 k) {W : World} (hb : Below W0.heap.size W0 W) : DoS B w W b g b2 g2 t wd N K s Q X X2 r v16 v17 k :=
  ⟨h.both.below hb, h.many, own_off h.own16 (T := fun _ => false) (Off.of_below (B := 0) hb) rfl, own_off h.own17 (T := fun _ => false) (Off.of_below (B := 0) hb) rfl, h.pos, h.below.trans (hb.mono h.both.lt), h.few⟩
theorem DoS.drewN (h : DoS B w W0 b g b2 g2 t wd N K s Q X X2 r v16 v17 k) (m : Nat) : DoS B w (W0.drewN m) b g b2 g2 t wd N K s Q X X2 r v16 v17 k := h.next ⟨rfl, rfl, rfl, Nat.le_refl _, fun _ _ => rfl⟩
theorem DoS.act (h : DoS B w W0 b g b2 g2 t wd N K s Q X X2 r v16 v17 k) {s' : Pl} {Q' : Nat → Sq} {r' : Nat → Nat} {W : World} (hb : BothIn B W b g b2 g2 t wd s' s' K K Q' Q' X X2 r') (ho : Off B TB W0 W) (hm : Many N t wd s' K Q') (hf : ∀ j, j < K → (Q' j).n ≤ k + 1) : DoS B w W b g b2 g2 t wd N K s' Q' X X2 r' v16 v17 (k + 1) :=
  ⟨hb, hm, own_off h.own16 ho rfl, own_off h.own17 ho rfl, h.pos, h.below.trans (ho.below h.both.lt), hf⟩
theorem DoS.still (h : DoS B w W0 b g b2 g2 t wd N K s Q X X2 r v16 v17 k) : DoS B w W0 b g b2 g2 t wd N K s Q X X2 r v16 v17 (k + 1) := ⟨h.both, h.many, h.own16, h.own17, h.pos, h.below, fun j hj => Nat.le_succ_of_le (h.few j hj)⟩
theorem DoS.kmem (h : DoS B w W0 b g b2 g2 t wd N K s Q X X2 r v16 v17 k) : K ≤ 6 := h.many.few
theorem few_upd {Q : Nat → Sq} {K k M : Nat} (hf : ∀ j, j < K → (Q j).n ≤ k) {q : Sq} (hq : q.n ≤ k + 1) : ∀ j, j < K → (upd Q M q j).n ≤ k + 1 := fun j hj => by
  by_cases e : j = M
  · subst e; rw [upd_same]; exact hq
  · rw [upd_other _ _ _ _ e]; exact Nat.le_succ_of_le (hf j hj)
theorem appQ_le (wd : Nat) (t : ByteArray) (s : Pl) (q : Sq) (zs : List Int) : (appQ wd t s q zs).n ≤ q.n + 1 := by unfold appQ; split <;> simp

/-- a row that is handed in -/
theorem DoS.given (h : DoS B w W0 b g b2 g2 t wd N K s Q X X2 r v16 v17 k) {w1 : World} (hB : w1.heap.size ≤ B) (hb : Below B w1 W0) {a : Option Addr} {n : Nat} {zs : List Int} (hr : Reads .i64 w1 a n zs) (hn : 0 < n) : Apart B W0 a n zs s r := by
  obtain ⟨y, rfl⟩ := hr.some_ hn
  have hc := hr.cell y rfl 0 hn
  have hl := World.block_lt_of_cell? w1 _ hc
  rw [add_block] at hl
  have hk : ∀ k, blkOf (some y) k → k < w1.heap.size := fun k hk => by obtain ⟨z, ez, rfl⟩ := hk; obtain rfl := Option.some.inj ez; exact hl
  have hz := h.both.lt
  refine ⟨reads_block hr (fun k h => hb.block k (by have := hk k h; omega)), fun k h => by have := hk k h; omega, fun k h => .inl (by have := hk k h; omega), fun k hk' i hi hu e => ?_⟩
  have := (h.both.refLt i hi hu).1
  have := hk k hk'
  omega
/-- a row that was made -/
theorem DoS.made (h : DoS B w W0 b g b2 g2 t wd N K s Q X X2 r v16 v17 k) {W : World} (hb : Below W0.heap.size W0 W) {a : Option Addr} {n c : Nat} {zs : List Int} (hr : RowJ W0.heap.size W a n c zs) : Apart B W a n zs s r := by
  refine ⟨hr.reads, fun k hk => (hr.block hk).2.elim fun m hm => hm.lt, fun k hk => .inr (hr.block hk).2, fun k hk i hi hu e => ?_⟩
  have := (h.both.refLt i hi hu).2
  have := (hr.block hk).1
  omega
/-- between the two appends -/
def DoMid (B : Nat) (W0 : World) (b g b2 g2 : Nat) (t : ByteArray) (wd K M : Nat) (s : Pl) (Q : Nat → Sq) (X X2 r : Nat → Nat) (a : Option Addr) (n : Nat) (zs : List Int) (W : World) : Prop :=
  BothIn B W b g b2 g2 t wd (appS wd t s (Q M) zs) s K K (upd Q M (appQ wd t s (Q M) zs)) Q X X2 r ∧ Off B TS W0 W ∧ Apart B W a n zs s r
def DoFin (B : Nat) (W0 : World) (b g b2 g2 : Nat) (t : ByteArray) (wd K M : Nat) (s : Pl) (Q : Nat → Sq) (X X2 : Nat → Nat) (zs : List Int) (W : World) : Prop :=
  ∃ r', BothIn B W b g b2 g2 t wd (appS wd t s (Q M) zs) (appS wd t s (Q M) zs) K K (upd Q M (appQ wd t s (Q M) zs)) (upd Q M (appQ wd t s (Q M) zs)) X X2 r' ∧ Off B TB W0 W
theorem DoS.h12 (h : DoS B w W0 b g b2 g2 t wd N K s Q X X2 r v16 v17 k) {M : Nat} (hM : M < K) (hk : k < 1000) {a : Option Addr} {n : Nat} {zs : List Int} (ha : Apart B W0 a n zs s r) :
    ∀ W ca cc, Below W0.heap.size W0 W → RowJ W0.heap.size W ca n cc zs → Calls Try.prog 12 #[.pointer (some ⟨X M, 0, none⟩), .slice ca n cc] W fun e W' => e = .returned (.int .i64 (appE wd t s (Q M) zs)) ∧ DoMid B W0 b g b2 g2 t wd K M s Q X X2 r a n zs W' := fun W ca cc hb hr => by
  refine ((h.both.below hb).append h.many hM (by have := h.few M hM; omega) hr).mono ?_
  rintro e W' ⟨rfl, hB, ho⟩
  exact ⟨rfl, hB, (Off.of_below (B := B) (T := TS) hb).trans ho, (ha.below hb).off ho rfl rfl (Fresh.refl _ _ _)⟩
theorem DoS.h13 (h : DoS B w W0 b g b2 g2 t wd N K s Q X X2 r v16 v17 k) {M : Nat} (hM : M < K) (hk : k < 1000) {a : Option Addr} {n c : Nat} {zs : List Int} :
    ∀ W, DoMid B W0 b g b2 g2 t wd K M s Q X X2 r a n zs W → Calls Try.prog 13 #[.pointer (some ⟨X2 M, 0, none⟩), .slice a n c] W fun e W' => e = .returned (.int .i64 (appE wd t s (Q M) zs)) ∧ DoFin B W0 b g b2 g2 t wd K M s Q X X2 zs W' := fun W hW => by
  obtain ⟨hB, ho, ha⟩ := hW
  refine (hB.rapp h.many hM (by have := h.few M hM; omega) ha).mono ?_
  rintro e W' ⟨rfl, r', hB', ho'⟩
  exact ⟨rfl, r', hB', (ho.mono TB_TS).trans ho'⟩
theorem DoS.appended (h : DoS B w W0 b g b2 g2 t wd N K s Q X X2 r v16 v17 k) {M : Nat} (hM : M < K) (hk : k < 1000) {zs : List Int} (hw : ∀ z ∈ zs, (Lit.int .i64 z).wf = true) {W : World} (hF : DoFin B W0 b g b2 g2 t wd K M s Q X X2 zs W) : ∃ s' Q' r', DoS B w W b g b2 g2 t wd N K s' Q' X X2 r' v16 v17 (k + 1) := by
  obtain ⟨r', hB, ho⟩ := hF
  have hf := h.few M hM
  refine ⟨_, _, r', h.act hB ho ?_ (few_upd h.few (Nat.le_trans (appQ_le wd t s (Q M) zs) (by omega)))⟩
  by_cases h0 : appE wd t s (Q M) zs = 0
  · exact (h.many.app hM zs hw (by omega) h0).1
  · obtain ⟨e1, e2⟩ := h.many.app_no (i := M) zs h0
    rw [e1, e2]
    exact h.many
/-- between two halves of Keep and of Release -/
def DoHalf (B : Nat) (W0 : World) (b g b2 g2 : Nat) (t : ByteArray) (wd K M : Nat) (s s' : Pl) (Q : Nat → Sq) (q' : Sq) (X X2 r : Nat → Nat) (W : World) : Prop :=
  BothIn B W b g b2 g2 t wd s' s K K (upd Q M q') Q X X2 r ∧ Off B TS W0 W
def DoWhole (B : Nat) (W0 : World) (b g b2 g2 : Nat) (t : ByteArray) (wd K M : Nat) (s' : Pl) (Q : Nat → Sq) (q' : Sq) (X X2 : Nat → Nat) (W : World) : Prop :=
  ∃ r', BothIn B W b g b2 g2 t wd s' s' K K (upd Q M q') (upd Q M q') X X2 r' ∧ Off B TB W0 W
theorem DoS.k16 (h : DoS B w W0 b g b2 g2 t wd N K s Q X X2 r v16 v17 k) {M : Nat} (hM : M < K) (z : Int) (hz : z ≤ 9223372036854775807) :
    ∀ W, Below W0.heap.size W0 W → Calls Try.prog 16 #[.pointer (some ⟨X M, 0, none⟩), .int .i64 z] W fun e W' => ∃ v, e = .returned v ∧ DoHalf B W0 b g b2 g2 t wd K M s (keepS wd s (Q M) z) Q (keepQ wd (Q M) z) X X2 r W' := fun W hb => by
  refine ((h.both.below hb).keep h.many hM z hz).mono ?_
  rintro e W' ⟨rfl, hB, ho⟩
  exact ⟨_, rfl, hB, (Off.of_below (B := B) (T := TS) hb).trans ho⟩
theorem DoS.k17 (h : DoS B w W0 b g b2 g2 t wd N K s Q X X2 r v16 v17 k) {M : Nat} (hM : M < K) (z : Int) (hz : z ≤ 9223372036854775807) :
    ∀ W W', DoHalf B W0 b g b2 g2 t wd K M s (keepS wd s (Q M) z) Q (keepQ wd (Q M) z) X X2 r W → Below W.heap.size W W' → Calls Try.prog 17 #[.pointer (some ⟨X2 M, 0, none⟩), .int .i64 z] W' fun e W' => ∃ v, e = .returned v ∧ DoWhole B W0 b g b2 g2 t wd K M (keepS wd s (Q M) z) Q (keepQ wd (Q M) z) X X2 W' := fun W W' hW hb => by
  obtain ⟨hB, ho⟩ := hW
  refine ((hB.below hb).rkeep h.many hM z hz).mono ?_
  rintro e W2 ⟨rfl, r', hB', ho'⟩
  exact ⟨_, rfl, r', hB', ((ho.mono TB_TS).trans (Off.of_below (B := B) (T := TB) hb)).trans ho'⟩
theorem DoS.k18 (h : DoS B w W0 b g b2 g2 t wd N K s Q X X2 r v16 v17 k) {M : Nat} (hM : M < K) :
    Calls Try.prog 18 #[.pointer (some ⟨X M, 0, none⟩)] W0 fun e W' => e = .returned (.tuple #[]) ∧ DoHalf B W0 b g b2 g2 t wd K M s (endS s (Q M)) Q (endQ (Q M)) X X2 r W' := by
  refine (h.both.end_ h.many hM).mono ?_
  rintro e W' ⟨rfl, hB, ho⟩
  exact ⟨rfl, hB, ho⟩
theorem DoS.k19 (h : DoS B w W0 b g b2 g2 t wd N K s Q X X2 r v16 v17 k) {M : Nat} (hM : M < K) :
    ∀ W, DoHalf B W0 b g b2 g2 t wd K M s (endS s (Q M)) Q (endQ (Q M)) X X2 r W → Calls Try.prog 19 #[.pointer (some ⟨X2 M, 0, none⟩)] W fun e W' => e = .returned (.tuple #[]) ∧ DoWhole B W0 b g b2 g2 t wd K M (endS s (Q M)) Q (endQ (Q M)) X X2 W' := fun W hW => by
  obtain ⟨hB, ho⟩ := hW
  refine (hB.rend h.many hM).mono ?_
  rintro e W2 ⟨rfl, r', hB', ho'⟩
  exact ⟨rfl, r', hB', (ho.mono TB_TS).trans ho'⟩
theorem DoS.half17 (h : DoS B w W0 b g b2 g2 t wd N K s Q X X2 r v16 v17 k) {M : Nat} {s' : Pl} {q' : Sq} {W : World} (hW : DoHalf B W0 b g b2 g2 t wd K M s s' Q q' X X2 r W) : W.ownsRow B 34 1 v17 K (ptrs X2 K) := own_off h.own17 hW.2 rfl
theorem DoS.kept_ (h : DoS B w W0 b g b2 g2 t wd N K s Q X X2 r v16 v17 k) {M : Nat} (hM : M < K) (z : Int) {W : World} (hF : DoWhole B W0 b g b2 g2 t wd K M (keepS wd s (Q M) z) Q (keepQ wd (Q M) z) X X2 W) : ∃ s' Q' r', DoS B w W b g b2 g2 t wd N K s' Q' X X2 r' v16 v17 (k + 1) := by
  obtain ⟨r', hB, ho⟩ := hF
  exact ⟨_, _, r', h.act hB ho (h.many.keep hM z).1 (few_upd h.few (Nat.le_succ_of_le (h.few M hM)))⟩
theorem DoS.ended (h : DoS B w W0 b g b2 g2 t wd N K s Q X X2 r v16 v17 k) {M : Nat} (hM : M < K) {W : World} (hF : DoWhole B W0 b g b2 g2 t wd K M (endS s (Q M)) Q (endQ (Q M)) X X2 W) : ∃ s' Q' r', DoS B w W b g b2 g2 t wd N K s' Q' X X2 r' v16 v17 (k + 1) := by
  obtain ⟨r', hB, ho⟩ := hF
  exact ⟨_, _, r', h.act hB ho (h.many.end_ hM).1 (few_upd h.few (Nat.le_succ_of_le (h.few M hM)))⟩
/-- a fork of both -/
def DoPre (B : Nat) (b g b2 g2 : Nat) (t : ByteArray) (wd K M x5 : Nat) (s : Pl) (Q : Nat → Sq) (X X2 r : Nat → Nat) (W : World) : Prop := BothIn B W b g b2 g2 t wd (forkS s (Q M)) s (K + 1) K (upd Q K (Q M)) Q (upd X K x5) X2 r
def DoPost (B : Nat) (b g b2 g2 : Nat) (t : ByteArray) (wd K M x5 : Nat) (s : Pl) (Q : Nat → Sq) (X X2 r : Nat → Nat) (y : Nat) (W : World) : Prop := BothIn B W b g b2 g2 t wd (forkS s (Q M)) (forkS s (Q M)) (K + 1) (K + 1) (upd Q K (Q M)) (upd Q K (Q M)) (upd X K x5) (upd X2 K y) r
theorem DoS.k14 (h : DoS B w W0 b g b2 g2 t wd N K s Q X X2 r v16 v17 k) {M : Nat} (hM : M < K) :
    Calls Try.prog 14 #[.pointer (some ⟨X M, 0, none⟩)] W0 fun e W' => ∃ x', e = .returned (.pointer (some ⟨x', 0, none⟩)) ∧ DoPre B b g b2 g2 t wd K M x' s Q X X2 r W' ∧ Off B TS W0 W' := h.both.fork h.many hM
theorem DoS.k15 (h : DoS B w W0 b g b2 g2 t wd N K s Q X X2 r v16 v17 k) {M x5 : Nat} (hM : M < K) :
    ∀ W, DoPre B b g b2 g2 t wd K M x5 s Q X X2 r W → Calls Try.prog 15 #[.pointer (some ⟨X2 M, 0, none⟩)] W fun e W' => ∃ y, e = .returned (.pointer (some ⟨y, 0, none⟩)) ∧ DoPost B b g b2 g2 t wd K M x5 s Q X X2 r y W' ∧ Off B TQ W W' := fun W hW => BothIn.rfork hW h.many hM
theorem DoS.forked (h : DoS B w W0 b g b2 g2 t wd N K s Q X X2 r v16 v17 k) {M x5 y : Nat} (hM : M < K) (hK : K < 6) {W : World} {v16' v17' : Value} (hP : DoPost B b g b2 g2 t wd K M x5 s Q X X2 r y W) (h16 : W.ownsRow B 31 1 v16' (K + 1) (ptrs (upd X K x5) (K + 1))) (h17 : W.ownsRow B 34 1 v17' (K + 1) (ptrs (upd X2 K y) (K + 1))) (hb : Below B w W) : ∃ s' Q' XX XY r', DoS B w W b g b2 g2 t wd N (K + 1) s' Q' XX XY r' v16' v17' (k + 1) :=
  ⟨_, _, _, _, r, hP, (h.many.fork hM hK).1, h16, h17, by omega, hb, fun j hj => by
    by_cases e : j = K
    · subst e; rw [upd_same]; exact Nat.le_succ_of_le (h.few M hM)
    · rw [upd_other _ _ _ _ e]; exact Nat.le_succ_of_le (h.few j (by omega))⟩
theorem own_cellE {w : World} {B e : Nat} {X : Nat → Nat} {x : Addr} {K c i : Nat} (h : w.ownsRow B e 1 (.slice (some x) K c) K (ptrs X K)) (hi : i < K) : w.cell? (x.add i) = some (.pointer (some ⟨X i, 0, none⟩)) := by
  obtain ⟨y, ey, hc⟩ := own_cell h (ptrs_at X K i hi)
  obtain rfl := Option.some.inj ey
  exact hc
theorem dos_new {W3 : World} {b g b2 g2 x x2 wd N : Nat} {t : ByteArray} (hp : BothIn w.heap.size W3 b g b2 g2 t wd (newPl N) (newPl N) 1 1 (fun _ => ⟨[], 0, 0⟩) (fun _ => ⟨[], 0, 0⟩) (fun _ => x) (fun _ => x2) r) (hb : Below w.heap.size w W3) (hN : 1 ≤ N ∧ N ≤ 256) (ht : ¬ t.toList = []) (w0 : 1 ≤ wd) (w1 : wd ≤ 32) :
    DoS w.heap.size w ((W3.alloc (.cells #[.pointer (some ⟨x, 0, none⟩)] 31)).alloc (.cells #[.pointer (some ⟨x2, 0, none⟩)] 34)) b g b2 g2 t wd N 1 (newPl N) (fun _ => ⟨[], 0, 0⟩) (fun _ => x) (fun _ => x2) r (.slice (some ⟨W3.heap.size, 0, none⟩) 1 1) (.slice (some ⟨W3.heap.size + 1, 0, none⟩) 1 1) 0 := by
  have hB : w.heap.size ≤ W3.heap.size := hb.size
  have b1 := below_new (Below.refl W3.heap.size W3) (.cells #[.pointer (some ⟨x, 0, none⟩)] 31)
  have b2 := below_new b1 (.cells #[.pointer (some ⟨x2, 0, none⟩)] 34)
  have o16 : (W3.alloc (.cells #[.pointer (some ⟨x, 0, none⟩)] 31)).ownsRow w.heap.size 31 1 (.slice (some ⟨W3.heap.size, 0, none⟩) 1 1) 1 [.pointer (some ⟨x, 0, none⟩)] := World.ownsRow_lit W3 #[_] 1 hB (by decide) rfl
  have o17 := World.ownsRow_lit (base := w.heap.size) (e := 34) (size := 1) (W3.alloc (.cells #[.pointer (some ⟨x, 0, none⟩)] 31)) #[.pointer (some ⟨x2, 0, none⟩)] 1 (by simp; omega) (by decide) rfl
  rw [World.size_alloc] at o17
  exact ⟨hp.below b2, many_new N t wd hN.1 hN.2 ht w0 w1, o16.alloc _, o17, Nat.le_refl _, below_then hb b2, fun j hj => Nat.le_refl _⟩

end Go.Proofs.Ytgjjeggopeppfaa
