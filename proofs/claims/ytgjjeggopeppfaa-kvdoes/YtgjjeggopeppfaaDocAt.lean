/- Sequences of the document as they lie in memory; rows of a page, whether one fits, Need. -/
import Derived.Test.YtgjjeggopeppfaaRows
import Derived.Test.YtgjjeggopeppfaaPages
import Derived.Test.YtgjjeggopeppfaaBasis
import Derived.Test.YtgjjeggopeppfaaLeast
import Derived.Test.YtgjjeggopeppfaaLays
import Derived.Test.YtgjjeggopeppfaaGoods
import Derived.Test.YtgjjeggopeppfaaRefA
import Derived.Test.YtgjjeggopeppfaaSeqP
import Derived.Test.YtgjjeggopeppfaaSeqRN
import Derived.Test.YtgjjeggopeppfaaReadsB
import Derived.WalkKit
import Derived.ProofKit
import Derived.OpenShut
import Derived.Below
import Derived.WalkLawsBesides
import Derived.Deep.QuietTactic
import Derived.BigQuiet
namespace Go.Proofs.Ytgjjeggopeppfaa
open Go.ChangeShapes Go.WideShapes Go.ChangeAt Go.RowKit
set_option linter.unusedVariables false
set_option linter.unusedSimpArgs false

/-- a sequence of the document's: its struct in block x, its pool in block b; its row of pages is never written -/
structure DocAt (B : Nat) (w : World) (x b : Nat) (t : ByteArray) (wd : Nat) (q : Sq) (a : Option Addr) (c : Nat) : Prop where
  Bx : B ≤ x
  top : Row 51 w x 6
  c0 : w.cell? ⟨x, 0, none⟩ = some (.pointer (some ⟨b, 0, none⟩))
  c1 : w.cell? ⟨x, 1, none⟩ = some (.string t)
  c2 : w.cell? ⟨x, 2, none⟩ = some (.int .i64 wd)
  c3 : w.cell? ⟨x, 3, none⟩ = some (.slice a q.P.length c)
  c4 : w.cell? ⟨x, 4, none⟩ = some (.int .i64 q.st)
  c5 : w.cell? ⟨x, 5, none⟩ = some (.int .i64 q.n)
  pg : Reads .i64 w a q.P.length q.P
  ty : ∀ k, blkOf a k → ∃ m, Row 3 w k m
  cap : q.P.length ≤ c
  capm : c ≤ 9223372036854775807
  nil_ : a = none → c = 0

theorem add_block (x : Addr) (i : Nat) : (x.add i).block = x.block := by unfold Addr.add; split <;> rfl
theorem reads_block {k : IntKind} {w w' : World} {a : Option Addr} {n : Nat} {zs : List Int} (h : Reads k w a n zs) (e : ∀ b, blkOf a b → w'.heap[b]? = w.heap[b]?) : Reads k w' a n zs :=
  ⟨h.len, h.max, h.wf, h.some_, fun y hy i hi => (World.cell?_of_block (w := w) (show w'.heap[(y.add i).block]? = w.heap[(y.add i).block]? by rw [add_block]; exact e _ ⟨y, hy, rfl⟩)).trans (h.cell y hy i hi)⟩
theorem DocAt.of_block {B : Nat} {w w' : World} {x b : Nat} {t : ByteArray} {wd : Nat} {q : Sq} {a : Option Addr} {c : Nat} (h : DocAt B w x b t wd q a c) (e : w'.heap[x]? = w.heap[x]?) (hp : ∀ k, blkOf a k → w'.heap[k]? = w.heap[k]?) : DocAt B w' x b t wd q a c :=
  ⟨h.Bx, h.top.of_block e, (cell_of_block e 0).trans h.c0, (cell_of_block e 1).trans h.c1, (cell_of_block e 2).trans h.c2, (cell_of_block e 3).trans h.c3, (cell_of_block e 4).trans h.c4, (cell_of_block e 5).trans h.c5, reads_block h.pg hp, fun k hk => by obtain ⟨m, hm⟩ := h.ty k hk; exact ⟨m, hm.of_block (hp k hk)⟩, h.cap, h.capm, h.nil_⟩
theorem DocAt.off {B B' : Nat} {T : TypeId → Bool} {w w' : World} {x b : Nat} {t : ByteArray} {wd : Nat} {q : Sq} {a : Option Addr} {c : Nat} (h : DocAt B w x b t wd q a c) (o : Off B' T w w') (h1 : T 51 = false) (h2 : T 3 = false) : DocAt B w' x b t wd q a c :=
  h.of_block (o.row h.top h1) (fun k hk => by obtain ⟨m, hm⟩ := h.ty k hk; exact o.row hm h2)
theorem DocAt.offS {B B' : Nat} {T : TypeId → Bool} {S : Nat → Prop} {w w' : World} {x b : Nat} {t : ByteArray} {wd : Nat} {q : Sq} {a : Option Addr} {c : Nat} (h : DocAt B w x b t wd q a c) (o : OffS B' T S w w') (h1 : T 51 = false) (h2 : T 3 = false) (hx : ¬ S x) (hS : ∀ k, blkOf a k → ¬ S k) : DocAt B w' x b t wd q a c :=
  h.of_block (o.row h.top h1 hx) (fun k hk => by obtain ⟨m, hm⟩ := h.ty k hk; exact o.row hm h2 (hS k hk))
theorem DocAt.below {B : Nat} {w w' : World} {x b : Nat} {t : ByteArray} {wd : Nat} {q : Sq} {a : Option Addr} {c : Nat} (h : DocAt B w x b t wd q a c) (o : Below w.heap.size w w') : DocAt B w' x b t wd q a c := h.off (T := fun _ => false) (B' := 0) (Off.of_below o) rfl rfl
theorem DocAt.drewN {B : Nat} {w : World} {x b : Nat} {t : ByteArray} {wd : Nat} {q : Sq} {a : Option Addr} {c : Nat} (h : DocAt B w x b t wd q a c) (m : Nat) : DocAt B (w.drewN m) x b t wd q a c := h.off (T := fun _ => false) (B' := 0) ((Off.refl _ _ w).drewN m) rfl rfl
theorem DocAt.page {B : Nat} {w : World} {x b : Nat} {t : ByteArray} {wd : Nat} {q : Sq} {a : Option Addr} {c : Nat} (h : DocAt B w x b t wd q a c) {i : Nat} (hi : i < q.P.length) : ∃ y, a = some y ∧ w.cell? (y.add i) = some (.int .i64 (q.P.getD i 0)) := by
  obtain ⟨y, rfl⟩ := h.pg.some_ (by omega)
  exact ⟨y, rfl, h.pg.cell y rfl i hi⟩
theorem DocAt.lt {B : Nat} {w : World} {x b : Nat} {t : ByteArray} {wd : Nat} {q : Sq} {a : Option Addr} {c : Nat} (h : DocAt B w x b t wd q a c) {k : Nat} (hk : blkOf a k) : k < w.heap.size := by obtain ⟨m, hm⟩ := h.ty k hk; exact hm.lt

theorem DocAt.setC {B : Nat} {w : World} {x b : Nat} {t : ByteArray} {wd : Nat} {q : Sq} {a : Option Addr} {c : Nat} (h : DocAt B w x b t wd q a c) (o : Nat) (v : Value) :
    Row 51 (w.setCell ⟨x, o, none⟩ v) x 6 ∧ (∀ j, j ≠ o → (w.setCell ⟨x, o, none⟩ v).cell? ⟨x, j, none⟩ = w.cell? ⟨x, j, none⟩) ∧ (∀ {t' : TypeId} {k m : Nat}, Row t' w k m → t' ≠ 51 → (w.setCell ⟨x, o, none⟩ v).heap[k]? = w.heap[k]?) ∧ OffS B (fun _ => false) (fun k => k = x) w (w.setCell ⟨x, o, none⟩ v) := by
  have os : OffS B (fun _ => false) (fun k => k = x) w (w.setCell ⟨x, o, none⟩ v) := OffS.set (S := fun k => k = x) h.Bx rfl o v
  exact ⟨h.top.set o v, fun j hj => World.cell?_setCell_other _ _ _ _ (by simp [hj]), fun r ht => os.row r rfl (r.ne h.top ht), os⟩
theorem DocAt.setSt {B : Nat} {w : World} {x b : Nat} {t : ByteArray} {wd : Nat} {q : Sq} {a : Option Addr} {c : Nat} (h : DocAt B w x b t wd q a c) (n : Nat) :
    DocAt B (w.setCell ⟨x, 4, none⟩ (.int .i64 n)) x b t wd ⟨q.P, n, q.n⟩ a c ∧ OffS B (fun _ => false) (fun k => k = x) w (w.setCell ⟨x, 4, none⟩ (.int .i64 n)) := by
  obtain ⟨h1, h3, h2, h4⟩ := h.setC 4 (.int .i64 n)
  have hp : ∀ k, blkOf a k → (w.setCell ⟨x, 4, none⟩ (.int .i64 n)).heap[k]? = w.heap[k]? := fun k hk => by obtain ⟨m, hm⟩ := h.ty k hk; exact h2 hm (by decide)
  exact ⟨⟨h.Bx, h1, (h3 0 (by decide)).trans h.c0, (h3 1 (by decide)).trans h.c1, (h3 2 (by decide)).trans h.c2, (h3 3 (by decide)).trans h.c3, World.cell?_setCell_same _ _ _ h.c4, (h3 5 (by decide)).trans h.c5, reads_block h.pg hp, fun k hk => by obtain ⟨m, hm⟩ := h.ty k hk; exact ⟨m, hm.of_block (hp k hk)⟩, h.cap, h.capm, h.nil_⟩, h4⟩
theorem DocAt.setN {B : Nat} {w : World} {x b : Nat} {t : ByteArray} {wd : Nat} {q : Sq} {a : Option Addr} {c : Nat} (h : DocAt B w x b t wd q a c) (n : Nat) :
    DocAt B (w.setCell ⟨x, 5, none⟩ (.int .i64 n)) x b t wd ⟨q.P, q.st, n⟩ a c ∧ OffS B (fun _ => false) (fun k => k = x) w (w.setCell ⟨x, 5, none⟩ (.int .i64 n)) := by
  obtain ⟨h1, h3, h2, h4⟩ := h.setC 5 (.int .i64 n)
  have hp : ∀ k, blkOf a k → (w.setCell ⟨x, 5, none⟩ (.int .i64 n)).heap[k]? = w.heap[k]? := fun k hk => by obtain ⟨m, hm⟩ := h.ty k hk; exact h2 hm (by decide)
  exact ⟨⟨h.Bx, h1, (h3 0 (by decide)).trans h.c0, (h3 1 (by decide)).trans h.c1, (h3 2 (by decide)).trans h.c2, (h3 3 (by decide)).trans h.c3, (h3 4 (by decide)).trans h.c4, World.cell?_setCell_same _ _ _ h.c5, reads_block h.pg hp, fun k hk => by obtain ⟨m, hm⟩ := h.ty k hk; exact ⟨m, hm.of_block (hp k hk)⟩, h.cap, h.capm, h.nil_⟩, h4⟩
/-- its pages are another row: of what was there its struct alone is asked -/
theorem DocAt.newP {B : Nat} {w w' : World} {x b : Nat} {t : ByteArray} {wd : Nat} {q : Sq} {a a' : Option Addr} {c c' : Nat} (h : DocAt B w x b t wd q a c) (e : w'.heap[x]? = w.heap[x]?) (P : List Int) (hp : Reads .i64 w' a' P.length P) (ht : ∀ k, blkOf a' k → ∃ m, Row 3 w' k m) (hc : P.length ≤ c') (hm : c' ≤ 9223372036854775807) (hn : a' = none → c' = 0) :
    w'.cell? ⟨x, 3, none⟩ = some (.slice a q.P.length c) ∧ w'.frozen? ⟨x, 3, none⟩ = false ∧ DocAt B (w'.setCell ⟨x, 3, none⟩ (.slice a' P.length c')) x b t wd ⟨P, q.st, q.n⟩ a' c' ∧ OffS B (fun _ => false) (fun k => k = x) w' (w'.setCell ⟨x, 3, none⟩ (.slice a' P.length c')) := by
  have htop := h.top.of_block e
  have os : OffS B (fun _ => false) (fun k => k = x) w' (w'.setCell ⟨x, 3, none⟩ (.slice a' P.length c')) := OffS.set (S := fun k => k = x) h.Bx rfl 3 _
  have o : ∀ j, j ≠ 3 → (w'.setCell ⟨x, 3, none⟩ (.slice a' P.length c')).cell? ⟨x, j, none⟩ = w.cell? ⟨x, j, none⟩ := fun j hj => (World.cell?_setCell_other _ _ _ _ (by simp [hj])).trans (cell_of_block e j)
  have hk : ∀ k, blkOf a' k → (w'.setCell ⟨x, 3, none⟩ (.slice a' P.length c')).heap[k]? = w'.heap[k]? := fun k hk => by
    obtain ⟨m, hm⟩ := ht k hk
    exact os.row hm rfl (hm.ne htop (by decide))
  refine ⟨(cell_of_block e 3).trans h.c3, htop.open_ 3, ⟨h.Bx, htop.set 3 _, (o 0 (by decide)).trans h.c0, (o 1 (by decide)).trans h.c1, (o 2 (by decide)).trans h.c2, World.cell?_setCell_same _ _ _ ((cell_of_block e 3).trans h.c3), (o 4 (by decide)).trans h.c4, (o 5 (by decide)).trans h.c5, reads_block hp hk, fun k hk' => by obtain ⟨m, hm⟩ := ht k hk'; exact ⟨m, hm.of_block (hk k hk')⟩, hc, hm, hn⟩, os⟩

theorem rrows_call {B : Nat} {w : World} {x b : Nat} {t : ByteArray} {wd : Nat} {q : Sq} {a : Option Addr} {c : Nat} (h : DocAt B w x b t wd q a c) (hw : 1 ≤ wd ∧ wd ≤ 32) :
    Calls Try.prog 40 #[.pointer (some ⟨x, 0, none⟩)] w fun e w' => e = .returned (.int .i64 ((32 / wd : Nat) : Int)) ∧ w' = w := by
  have c2 := h.c2
  obtain ⟨r, er, e1, r0, r1, e2⟩ := quo32 hw.1 hw.2
  rw [er]
  have z : ((wd : Int) == 0) = false := by simp; omega
  have z' : ¬ ((wd : Int) = 0) := by omega
  obtain ⟨h0, h1⟩ := hw
  clear h er
  go_enter Try.func40, Try.ntmps40
  go_wp2
  go_ret
  exact ⟨by simp, rfl⟩

theorem fits_call {B : Nat} {w : World} {x b : Nat} {t : ByteArray} {wd : Nat} {q : Sq} {a : Option Addr} {c : Nat} (h : DocAt B w x b t wd q a c) (hq : SqOk wd q) :
    Calls Try.prog 36 #[.pointer (some ⟨x, 0, none⟩)] w fun e w' => e = .returned (.bool (fitB wd q)) ∧ ∃ m, w' = w.drewN m := by
  have c3 := h.c3
  have c4 := h.c4
  have c5 := h.c5
  have k := fun m => rrows_call (h.drewN m) ⟨hq.w0, hq.w1⟩
  have hl := hq.len
  have hf := hq.few
  have hs := hq.st
  have r1 := rr_le wd
  unfold fitB
  obtain ⟨r, er⟩ : ∃ r : Nat, 32 / wd = r := ⟨_, rfl⟩
  rw [er] at r1 k ⊢
  obtain ⟨L, eL⟩ : ∃ L, q.P.length = L := ⟨_, rfl⟩
  rw [eL] at c3 hl ⊢
  obtain ⟨n, en⟩ : ∃ n, q.n = n := ⟨_, rfl⟩
  rw [en] at c5 hl hf hs ⊢
  obtain ⟨st, es⟩ : ∃ st, q.st = st := ⟨_, rfl⟩
  rw [es] at c4 hs ⊢
  have hL : L ≤ 1000 := by omega
  have hm : L * r ≤ 1000 * 32 := Nat.mul_le_mul hL r1
  have hm' : (L : Int) * (r : Int) ≤ 32000 := by rw [← Int.natCast_mul]; omega
  have hm0 : 0 ≤ (L : Int) * (r : Int) := by rw [← Int.natCast_mul]; omega
  clear h hq er eL en es
  go_enter Try.func36, Try.ntmps36
  go_wp2
  go_quiet (first | (go_at_call 40; exact Calls.quiet_of_same (k _)))
  go_wp2
  go_ret
  exact ⟨rfl, _, rfl⟩

theorem rneed_call {g m : Nat} {s : Pl} {r : Nat → Nat} {B : Nat} {w : World} {x b : Nat} {t : ByteArray} {wd : Nat} {q : Sq} {a : Option Addr} {c : Nat} (h : DocAt B w x b t wd q a c) (hp : RefAt B w b g s r) (hG : Good m s) (hq : SqOk wd q) :
    Calls Try.prog 34 #[.pointer (some ⟨x, 0, none⟩)] w fun e w' => e = .returned (.int .i64 (needV wd s q)) ∧ ∃ m, w' = w.drewN m := by
  have c0 := h.c0
  have k36 := fun m => fits_call (h.drewN m) hq
  unfold needV needB
  by_cases hf : fitB wd q = true
  · have hl := fit_len hq hf
    have hm : q.P.length ≤ 1000 := Nat.le_trans hq.len hq.few
    have c3 := h.c3
    obtain ⟨y, rfl, hc⟩ := h.page (i := q.P.length - 1) (by omega)
    have k50 := fun m => refOwners_call (hp.drewN m) hG.n1 hG.ow0 (lastZ q.P)
    have e : lastZ q.P = q.P.getD (q.P.length - 1) 0 := rfl
    rw [← e] at hc
    rw [hf] at k36 ⊢
    obtain ⟨Z, eZ⟩ : ∃ Z, lastZ q.P = Z := ⟨_, rfl⟩
    rw [eZ] at hc ⊢
    simp only [eZ] at k50
    obtain ⟨O, eO⟩ : ∃ O, owZ s Z = O := ⟨_, rfl⟩
    rw [eO] at k50 ⊢
    obtain ⟨L, eL⟩ : ∃ L, q.P.length = L + 1 := ⟨q.P.length - 1, by omega⟩
    rw [eL] at c3 hc hm
    simp only [Nat.add_sub_cancel] at hc
    have eI : ((L + 1 : Nat) : Int) - 1 = (L : Int) := by omega
    clear h hp hG hq hf hl e eZ eO eL
    by_cases ho : O ≤ 1
    · have d : decide (O ≤ 1) = true := by simp [ho]
      have d' : ¬ (1 : Int) < O := by omega
      rw [d]
      go_enter Try.func34, Try.ntmps34
      go_wp2
      go_quiet (first | (go_at_call 36; exact Calls.quiet_of (k36 _)) | (go_at_call 50; exact Calls.quiet_of_same (k50 _)))
      go_wp2
      go_ret
      exact ⟨by simp, _, rfl⟩
    · have d : decide (O ≤ 1) = false := by simp [ho]
      have d' : (1 : Int) < O := by omega
      rw [d]
      go_enter Try.func34, Try.ntmps34
      go_wp2
      go_quiet (first | (go_at_call 36; exact Calls.quiet_of (k36 _)) | (go_at_call 50; exact Calls.quiet_of_same (k50 _)))
      go_wp2
      go_ret
      exact ⟨by simp, _, rfl⟩
  · have hf' : fitB wd q = false := by simpa using hf
    rw [hf'] at k36 ⊢
    clear h hp hG hq hf hf'
    go_enter Try.func34, Try.ntmps34
    go_wp2
    go_quiet (first | (go_at_call 36; exact Calls.quiet_of (k36 _)))
    go_wp2
    go_ret
    exact ⟨by simp, _, rfl⟩

end Go.Proofs.Ytgjjeggopeppfaa
