/- The document's tenants in memory; its readers. -/
import Derived.Test.YtkjmlbllpnehlaaRows
import Derived.Test.YtkjmlbllpnehlaaView
import Derived.Test.YtkjmlbllpnehlaaOwn
import Derived.Test.YtkjmlbllpnehlaaBase
import Derived.Test.YtkjmlbllpnehlaaFkZ
import Derived.Test.YtkjmlbllpnehlaaFkBy
import Derived.Test.YtkjmlbllpnehlaaFkAt
import Derived.WalkKit
import Derived.ProofKit
import Derived.OpenShut
import Derived.Below
import Derived.WalkLawsBesides
import Derived.Deep.QuietTactic
import Derived.BigQuiet
import Derived.Maps.AppendAt
import Derived.OwnWalk
namespace Go.Proofs.Ytkjmlbllpnehlaa
set_option maxRecDepth 20000
open Go.ChangeShapes Go.WideShapes Go.ChangeAt Go.RowKit
set_option linter.unusedVariables false
set_option linter.unusedSimpArgs false

structure Rp where
  gW : Nat
  cW : Nat
  gC : Nat
  cC : Nat
  L : Sl
structure RfAt (B : Nat) (w : World) (f : Nat) (p : Rp) (s : Fr) : Prop where
  Bf : B ≤ f
  BC : B ≤ p.gC
  top : Row 57 w f 4
  t0 : w.cell? ⟨f, 0, none⟩ = some (.slice (some ⟨p.gW, 0, none⟩) s.n p.cW)
  t1 : w.cell? ⟨f, 1, none⟩ = some (.slice (some ⟨p.gC, 0, none⟩) s.n p.cC)
  t2 : w.cell? ⟨f, 2, none⟩ = some (.slice p.L.a s.L.length p.L.c)
  t3 : w.cell? ⟨f, 3, none⟩ = some (.int .i64 s.tm)
  rW : ∃ m, Row 3 w p.gW m
  rC : ∃ m, Row 3 w p.gC m
  w0 : ∀ i, i < s.n → w.cell? ⟨p.gW, i, none⟩ = some (.int .i64 (s.wt i))
  c0 : ∀ i, i < s.n → w.cell? ⟨p.gC, i, none⟩ = some (.int .i64 (s.ck i))
  own : w.ownsRow B 47 3 (.slice p.L.a s.L.length p.L.c) s.L.length (byF itF s.L)
  ne : p.gW ≠ p.gC
def TR (t : TypeId) : Bool := t == 57 || t == 47 || t == 3
theorem RfAt.keep {B : Nat} {w : World} {f : Nat} {p : Rp} {s : Fr} (h : RfAt B w f p s) {w' : World} (hk : ∀ i t, i < w.heap.size → typeOf w i = some t → TR t = true → w'.heap[i]? = w.heap[i]?) : RfAt B w' f p s := by
  have kr : ∀ {t i m}, Row t w i m → TR t = true → w'.heap[i]? = w.heap[i]? := fun r hT => hk _ _ r.lt r.type hT
  have ef := kr h.top rfl
  obtain ⟨m1, r1⟩ := h.rW
  obtain ⟨m2, r2⟩ := h.rC
  have eW := kr r1 rfl
  have eC := kr r2 rfl
  refine ⟨h.Bf, h.BC, h.top.of_block ef, (cell_of_block ef 0).trans h.t0, (cell_of_block ef 1).trans h.t1, (cell_of_block ef 2).trans h.t2, (cell_of_block ef 3).trans h.t3, ⟨m1, r1.of_block eW⟩, ⟨m2, r2.of_block eC⟩, fun i hi => (cell_of_block eW _).trans (h.w0 i hi), fun i hi => (cell_of_block eC _).trans (h.c0 i hi), own_keep h.own fun k hb => ?_, h.ne⟩
  obtain ⟨_, m, r⟩ := own_blk h.own hb
  exact kr r rfl
theorem RfAt.below {B : Nat} {w : World} {f : Nat} {p : Rp} {s : Fr} (h : RfAt B w f p s) {w' : World} (hb : Below w.heap.size w w') : RfAt B w' f p s := h.keep fun i t hi _ _ => hb.block i hi
theorem RfAt.drewN {B : Nat} {w : World} {f : Nat} {p : Rp} {s : Fr} (h : RfAt B w f p s) (m : Nat) : RfAt B (w.drewN m) f p s := h.keep fun _ _ _ _ _ => rfl
theorem RfAt.off {B : Nat} {w : World} {f : Nat} {p : Rp} {s : Fr} (h : RfAt B w f p s) {B' : Nat} {T : TypeId → Bool} {w' : World} (o : Off B' T w w') (h1 : T 57 = false) (h2 : T 47 = false) (h3 : T 3 = false) : RfAt B w' f p s := h.keep fun i t hi ht hT => o.block i hi (.inr fun t' ht' => by
    rw [ht] at ht'
    obtain rfl := Option.some.inj ht'
    simp only [TR, Bool.or_eq_true, beq_iff_eq] at hT
    rcases hT with (rfl | rfl) | rfl <;> assumption)
theorem RfAt.lt {B : Nat} {w : World} {f : Nat} {p : Rp} {s : Fr} (h : RfAt B w f p s) : f < w.heap.size ∧ B ≤ w.heap.size := by
  have := h.top.lt
  have := h.Bf
  omega
theorem RfAt.neW {B : Nat} {w : World} {f : Nat} {p : Rp} {s : Fr} (h : RfAt B w f p s) : f ≠ p.gW := by
  obtain ⟨m1, r1⟩ := h.rW
  exact h.top.ne r1 (by decide)
theorem RfAt.neC {B : Nat} {w : World} {f : Nat} {p : Rp} {s : Fr} (h : RfAt B w f p s) : f ≠ p.gC := by
  obtain ⟨m1, r1⟩ := h.rC
  exact h.top.ne r1 (by decide)
theorem RfAt.rowne {B : Nat} {w : World} {f : Nat} {p : Rp} {s : Fr} (h : RfAt B w f p s) {k : Nat} (hk : blkOf p.L.a k) : k ≠ f ∧ k ≠ p.gW ∧ k ≠ p.gC := by
  obtain ⟨_, m, r⟩ := own_blk h.own hk
  obtain ⟨m1, r1⟩ := h.rW
  obtain ⟨m2, r2⟩ := h.rC
  exact ⟨r.ne h.top (by decide), r.ne r1 (by decide), r.ne r2 (by decide)⟩
theorem RfAt.setTm {B : Nat} {w : World} {f : Nat} {p : Rp} {s : Fr} (h : RfAt B w f p s) (z : Int) : RfAt B (w.setCell ⟨f, 3, none⟩ (.int .i64 z)) f p { s with tm := z } ∧ Off B TR w (w.setCell ⟨f, 3, none⟩ (.int .i64 z)) := by
  have eW := Below.heap_setCell w ⟨f, 3, none⟩ (.int .i64 z) p.gW h.neW.symm
  have eC := Below.heap_setCell w ⟨f, 3, none⟩ (.int .i64 z) p.gC h.neC.symm
  obtain ⟨m1, r1⟩ := h.rW
  obtain ⟨m2, r2⟩ := h.rC
  exact ⟨⟨h.Bf, h.BC, h.top.set 3 _, (World.cell?_setCell_other _ _ _ _ (by simp)).trans h.t0, (World.cell?_setCell_other _ _ _ _ (by simp)).trans h.t1, (World.cell?_setCell_other _ _ _ _ (by simp)).trans h.t2, World.cell?_setCell_same _ _ _ h.t3, ⟨m1, r1.of_block eW⟩, ⟨m2, r2.of_block eC⟩, fun i hi => (cell_of_block eW _).trans (h.w0 i hi), fun i hi => (cell_of_block eC _).trans (h.c0 i hi), own_keep h.own fun k hb => Below.heap_setCell w ⟨f, 3, none⟩ _ k (h.rowne hb).1, h.ne⟩, Off.set h.top h.Bf rfl _ _⟩
theorem RfAt.setCk {B : Nat} {w : World} {f : Nat} {p : Rp} {s : Fr} (h : RfAt B w f p s) {i : Nat} (hi : i < s.n) (z : Int) : RfAt B (w.setCell ⟨p.gC, i, none⟩ (.int .i64 z)) f p { s with ck := upd s.ck i z } ∧ Off B TR w (w.setCell ⟨p.gC, i, none⟩ (.int .i64 z)) := by
  have ef := Below.heap_setCell w ⟨p.gC, i, none⟩ (.int .i64 z) f h.neC
  have eW := Below.heap_setCell w ⟨p.gC, i, none⟩ (.int .i64 z) p.gW h.ne
  obtain ⟨m1, r1⟩ := h.rW
  obtain ⟨m2, r2⟩ := h.rC
  refine ⟨⟨h.Bf, h.BC, h.top.of_block ef, (cell_of_block ef _).trans h.t0, (cell_of_block ef _).trans h.t1, (cell_of_block ef _).trans h.t2, (cell_of_block ef _).trans h.t3, ⟨m1, r1.of_block eW⟩, ⟨m2, r2.set _ _⟩, fun i hi => (cell_of_block eW _).trans (h.w0 i hi), fun j hj => ?_, own_keep h.own fun k hb => Below.heap_setCell w ⟨p.gC, i, none⟩ _ k (h.rowne hb).2.2, h.ne⟩, Off.set r2 h.BC rfl _ _⟩
  show _ = some (Value.int .i64 (upd s.ck i z j))
  by_cases e : j = i
  · subst e
    rw [upd_same]
    exact World.cell?_setCell_same _ _ _ (h.c0 j hj)
  · rw [upd_other _ _ _ _ e]
    exact (World.cell?_setCell_other _ _ _ _ (by simp <;> omega)).trans (h.c0 j hj)
theorem RfAt.setL {B : Nat} {w : World} {f : Nat} {p : Rp} {s : Fr} (h : RfAt B w f p s) {W : World} (hW : OffS B (fun _ => false) (blkOf p.L.a) w W) {L' : List It} {x : Sl} (ho : W.ownsRow B 47 3 (.slice x.a L'.length x.c) L'.length (byF itF L')) :
    RfAt B (W.setCell ⟨f, 2, none⟩ (.slice x.a L'.length x.c)) f { p with L := x } { s with L := L' } ∧ OffS B (fun t => t == 57) (blkOf p.L.a) w (W.setCell ⟨f, 2, none⟩ (.slice x.a L'.length x.c)) ∧ W.cell? ⟨f, 2, none⟩ = some (.slice p.L.a s.L.length p.L.c) ∧ W.frozen? ⟨f, 2, none⟩ = false := by
  obtain ⟨m1, r1⟩ := h.rW
  obtain ⟨m2, r2⟩ := h.rC
  have kf := hW.row h.top rfl (fun hb => (h.rowne hb).1 rfl)
  have kW := hW.row r1 rfl (fun hb => (h.rowne hb).2.1 rfl)
  have kC := hW.row r2 rfl (fun hb => (h.rowne hb).2.2 rfl)
  have topW := h.top.of_block kf
  have eW := Below.heap_setCell W ⟨f, 2, none⟩ (.slice x.a L'.length x.c) p.gW h.neW.symm
  have eC := Below.heap_setCell W ⟨f, 2, none⟩ (.slice x.a L'.length x.c) p.gC h.neC.symm
  have t2W := (cell_of_block kf 2).trans h.t2
  refine ⟨⟨h.Bf, h.BC, topW.set 2 _, (World.cell?_setCell_other _ _ _ _ (by simp)).trans ((cell_of_block kf _).trans h.t0), (World.cell?_setCell_other _ _ _ _ (by simp)).trans ((cell_of_block kf _).trans h.t1), World.cell?_setCell_same _ _ _ t2W, (World.cell?_setCell_other _ _ _ _ (by simp)).trans ((cell_of_block kf _).trans h.t3), ⟨m1, (r1.of_block kW).of_block eW⟩, ⟨m2, (r2.of_block kC).of_block eC⟩, fun i hi => (cell_of_block eW _).trans ((cell_of_block kW _).trans (h.w0 i hi)), fun i hi => (cell_of_block eC _).trans ((cell_of_block kC _).trans (h.c0 i hi)), own_keep ho fun k hk => Below.heap_setCell W ⟨f, 2, none⟩ _ k ?_, h.ne⟩, ?_, t2W, topW.open_ 2⟩
  · obtain ⟨_, m, r⟩ := own_blk ho hk
    exact r.ne topW (by decide)
  · exact (hW.mono (fun _ _ => rfl) (fun _ x => x)).trans ((Off.set (T := fun t => t == 57) topW h.Bf rfl 2 _).toS (blkOf p.L.a)) (fun _ x => .inl x)
theorem RfAt.offTR {B : Nat} {w : World} {f : Nat} {p : Rp} {s : Fr} (h : RfAt B w f p s) {w' : World} (o : OffS B (fun t => t == 57) (blkOf p.L.a) w w') : Off B TR w w' := ⟨o.os, o.tape, o.output, o.size, fun k hk hc => o.block k hk (by
  rcases hc with hc | hc
  · exact .inl hc
  · refine .inr ⟨fun hb => ?_, fun t ht => ?_⟩
    · obtain ⟨_, m, r⟩ := own_blk h.own hb
      have := hc 47 r.type
      cases this
    · have := hc t ht
      simp only [TR, Bool.or_eq_false_iff] at this
      exact this.1.1)⟩
/-- what lies in the list -/
theorem RfAt.cells {B : Nat} {w : World} {f : Nat} {p : Rp} {s : Fr} (h : RfAt B w f p s) {j : Nat} (hj : j < s.L.length) : ∃ y, p.L.a = some ⟨y, 0, none⟩ ∧ w.cell? ⟨y, j * 3, none⟩ = some (.int .i64 ((s.L[j]).t : Int)) ∧ w.cell? ⟨y, j * 3 + 1, none⟩ = some (.int .i64 (s.L[j]).id) ∧ w.cell? ⟨y, j * 3 + 2, none⟩ = some (.int .i64 (s.L[j]).co) ∧ s.L.length ≤ p.L.c ∧ p.L.c ≤ 9223372036854775807 := by
  rcases h.own.2 with ⟨h1, h2⟩ | ⟨y, cap, cur, h1, h2, h3, h4, h5, _⟩
  · omega
  · have ho := h.own
    simp only [Value.slice.injEq] at h1
    obtain ⟨e1, -, e3⟩ := h1
    rw [e1, e3] at ho
    have e0 : s.L[j]? = some s.L[j] := List.getElem?_eq_getElem hj
    have l2 : j * 3 + 2 < s.L.length * 3 := by omega
    refine ⟨y, e1, ?_, ?_, ?_, by omega, by unfold maxLen at h5; omega⟩
    · rw [ho.cellAt (j * 3) (by omega)]
      have := by_at knd_it e0 (j := 0) (by omega)
      simpa [itF] using this
    · rw [ho.cellAt (j * 3 + 1) (by omega)]
      have := by_at knd_it e0 (j := 1) (by omega)
      simpa [itF] using this
    · rw [ho.cellAt (j * 3 + 2) l2]
      have := by_at knd_it e0 (j := 2) (by omega)
      simpa [itF] using this
theorem RfAt.len {B : Nat} {w : World} {f : Nat} {p : Rp} {s : Fr} (h : RfAt B w f p s) : s.L.length ≤ 9223372036854775807 := by
  rcases Nat.eq_zero_or_pos s.L.length with e | e
  · omega
  · obtain ⟨y, h1, h2, h3, h4, h5, h6⟩ := h.cells e
    omega
theorem ris_call {B : Nat} {w : World} {f : Nat} {p : Rp} {s : Fr} (h : RfAt B w f p s) (hn : s.n ≤ 4) (z : Int) : Calls Try.prog 25 #[.pointer (some ⟨f, 0, none⟩), .int .i64 z] w fun e w' => e = .returned (.bool (numB s z)) ∧ w' = w := by
  have t0 := h.t0
  obtain ⟨n, en⟩ : ∃ n, s.n = n := ⟨_, rfl⟩
  rw [en] at t0 hn
  obtain ⟨b, eb⟩ : ∃ b, numB s z = b := ⟨_, rfl⟩
  have eb2 := eb
  unfold numB at eb2
  rw [en] at eb2
  rw [eb]
  clear eb h
  by_cases h0 : 0 ≤ z
  · by_cases h1 : z < (n : Int)
    · have : b = true := by rw [← eb2]; simp [h0, h1]
      subst this
      clear eb2
      go_enter Try.func25, Try.ntmps25
      go_wp2
      go_ret
      exact ⟨rfl, rfl⟩
    · have : b = false := by rw [← eb2]; simp [h1]
      subst this
      clear eb2
      go_enter Try.func25, Try.ntmps25
      go_wp2
      go_ret
      exact ⟨rfl, rfl⟩
  · have : b = false := by rw [← eb2]; simp; omega
    subst this
    clear eb2
    go_enter Try.func25, Try.ntmps25
    go_wp2
    go_ret
    exact ⟨rfl, rfl⟩
theorem rclock_call {B : Nat} {w : World} {f : Nat} {p : Rp} {s : Fr} (h : RfAt B w f p s) (hn : s.n ≤ 4) (z : Int) : Calls Try.prog 18 #[.pointer (some ⟨f, 0, none⟩), .int .i64 z] w fun e w' => e = .returned (.int .i64 (clockZ s z)) ∧ w' = w := by
  have k := ris_call h hn z
  by_cases hb : numB s z = true
  · obtain ⟨z0, z1, z2, z3⟩ := num_nat hb
    have c2 := h.c0 _ z2
    have t1 := h.t1
    have e2 : clockZ s z = s.ck z.toNat := by rw [clockZ, if_pos hb]
    rw [hb] at k
    rw [e2]
    obtain ⟨l, el⟩ : ∃ l, s.ck z.toNat = l := ⟨_, rfl⟩
    obtain ⟨i, ei⟩ : ∃ i, z.toNat = i := ⟨_, rfl⟩
    rw [el] at c2 ⊢
    rw [ei] at c2 z2 z3
    subst z3
    obtain ⟨X, eX⟩ : ∃ X : Addr, X = ⟨p.gC, 0, none⟩ := ⟨_, rfl⟩
    rw [← eX] at t1
    have cx : w.cell? (X.add i) = some (.int .i64 l) := by rw [eX, add_zero_at]; exact c2
    obtain ⟨n, en⟩ : ∃ n, s.n = n := ⟨_, rfl⟩
    rw [en] at t1 z1 z2
    clear e2 el ei h hb c2 eX en hn
    go_enter Try.func18, Try.ntmps18
    go_wp2_with (go_at_call 25; refine k.mono ?_; rintro e W1 ⟨rfl, h1⟩; obtain rfl := h1.symm)
    go_ret
    exact ⟨rfl, rfl⟩
  · have e2 : clockZ s z = 0 := by rw [clockZ, if_neg hb]
    have hb' : numB s z = false := by simpa using hb
    rw [hb'] at k
    rw [e2]
    clear e2 h hb hb'
    go_enter Try.func18, Try.ntmps18
    go_wp2_with (go_at_call 25; refine k.mono ?_; rintro e W1 ⟨rfl, h1⟩; obtain rfl := h1.symm)
    go_ret
    exact ⟨rfl, rfl⟩

end Go.Proofs.Ytkjmlbllpnehlaa
