/- A beam's candidates ahead of their being gathered. -/
import Derived.Test.YteeljnibglnflaaRows
import Derived.Test.YteeljnibglnflaaView
import Derived.Test.YteeljnibglnflaaOwn
import Derived.Test.YteeljnibglnflaaWhere
import Derived.Test.YteeljnibglnflaaBmZ
import Derived.Test.YteeljnibglnflaaBmAt
import Derived.Test.YteeljnibglnflaaBmWhole
import Derived.Test.YteeljnibglnflaaBmRefA
import Derived.WalkKit
import Derived.ProofKit
import Derived.OpenShut
import Derived.WalkLawsBesides
import Derived.Below
import Derived.Deep.QuietTactic
import Derived.BigQuiet
import Derived.Laws.AppendOwnNone
namespace Go.Proofs.Yteeljnibglnflaa
set_option maxRecDepth 20000
open Go.ChangeShapes Go.WideShapes Go.ChangeAt Go.RowKit
set_option linter.unusedVariables false
set_option linter.unusedSimpArgs false

/-- what stands between a beam's candidates and their being gathered -/
def Pk (w : World) (LB : Nat → Bm) (F : Nat → Int) (Kt : Nat → Nat) (k : Nat) (v1 v2 v3 : Value) (A' : Nat → Option Addr) (C' : Nat → Nat) (W : World) (v22 : Value) : Prop :=
  ∃ (M0 N : Nat) (xc : Addr) (cc : Nat) (Ac : Nat → Option Addr) (Cc : Nat → Nat), v22 = .slice (some xc) M0 cc ∧ M0 ≤ 1000 ∧ BmAt W (some xc) M0 Ac Cc (fun t => LB (Kt k + t)) ∧ N ≤ xc.block ∧ (∀ r, r < M0 → 0 < (LB (Kt k + r)).t.length → ∀ x, Ac r = some x → N ≤ x.block ∨ Reads .i64 w (Ac r) (LB (Kt k + r)).t.length (LB (Kt k + r)).t) ∧ (∀ t, t < M0 → F (Kt k + t) = (k : Int)) ∧ (∀ t, t < M0 → Kt k + t ≤ 1000000) ∧ Kt k + M0 = Kt (k + 1) ∧ RA w W v1 v2 v3 (Kt k) (Kt k) (Kt k) A' C' LB F ∧ Win W N W v1 v2 v3

theorem Win.start {w W : World} {va vf vs : Value} {k1 k2 k3 : Nat} {A : Nat → Option Addr} {C : Nat → Nat} {LB : Nat → Bm} {F : Nat → Int} (h : RA w W va vf vs k1 k2 k3 A C LB F) (W' : World) {N : Nat} (hN : W.heap.size ≤ N) : Win W' N W' va vf vs :=
  ⟨Nat.le_refl _, fun _ _ _ h => h, fun g hg => .inl (by have := (h.o1.own.lt g hg).2; omega), fun g hg => .inl (by have := (h.o2.lt g hg).2; omega), fun g hg => .inl (by have := (h.o3.lt g hg).2; omega)⟩

theorem Pk.done {w wr : World} {LB : Nat → Bm} {F : Nat → Int} {Kt : Nat → Nat} {k : Nat} {v1 v2 v3 : Value} {A' : Nat → Option Addr} {C' : Nat → Nat} (h : RA w wr v1 v2 v3 (Kt k) (Kt k) (Kt k) A' C' LB F) {a : Option Addr} {c : Nat} {B : Bm} (hr : Reads .i64 w a B.t.length B.t) (hn : a = none → c = 0) (hw : (Lit.int .i64 B.s).wf = true) (hL : LB (Kt k + 0) = B) (hF : F (Kt k + 0) = (k : Int)) (hK : Kt (k + 1) = Kt k + 1) (hb : Kt k ≤ 1000000) :
    Pk w LB F Kt k v1 v2 v3 A' C' (wr.alloc (.cells #[.slice a B.t.length c, .int .i64 B.s, .bool B.f] 42)) (.slice (some ⟨wr.heap.size, 0, none⟩) 1 1) := by
  have b1 := below_new (Below.refl wr.heap.size wr) (.cells #[.slice a B.t.length c, .int .i64 B.s, .bool B.f] 42)
  have e0 : ∀ r, r < 1 → LB (Kt k + r) = B := fun r hr => by obtain rfl : r = 0 := by omega
                                                             exact hL
  have fF : ∀ t, t < 1 → F (Kt k + t) = (k : Int) := fun t ht => by
    obtain rfl : t = 0 := by omega
    exact hF
  refine ⟨1, wr.heap.size, ⟨wr.heap.size, 0, none⟩, 1, fun _ => a, fun _ => c, rfl, by decide, ?_, Nat.le_refl _, fun r hr' _ x hx => .inr (by rw [e0 r hr']; exact hr), fF, fun t ht => by omega, hK.symm, h.below b1, Win.start h _ (Nat.le_refl _)⟩
  refine (⟨by decide, fun _ => ⟨_, rfl⟩, fun x hx r hr' => ?_, fun r _ => (hr.below h.bel).below b1, fun r _ => hn, fun r _ => hw⟩ : BmAt _ (some ⟨wr.heap.size, 0, none⟩) 1 (fun _ => a) (fun _ => c) (fun _ => B)).congr (fun _ _ => rfl) (fun _ _ => rfl) (fun r hr' => (e0 r hr').symm)
  obtain rfl := Option.some.inj hx
  obtain rfl : r = 0 := by omega
  rw [Addr.add_add, Addr.add_add]
  exact ⟨lit_new wr [.slice a B.t.length c, .int .i64 B.s, .bool B.f] 42 0 _ rfl, lit_new wr [.slice a B.t.length c, .int .i64 B.s, .bool B.f] 42 1 _ rfl, lit_new wr [.slice a B.t.length c, .int .i64 B.s, .bool B.f] 42 2 _ rfl⟩

theorem Pk.live {w wr W W2 : World} {LB : Nat → Bm} {F : Nat → Int} {Kt : Nat → Nat} {k : Nat} {v1 v2 v3 : Value} {A' : Nat → Option Addr} {C' : Nat → Nat} (h : RA w wr v1 v2 v3 (Kt k) (Kt k) (Kt k) A' C' LB F) (hb1 : Below wr.heap.size wr W) (hb2 : Below W.heap.size W W2) {a : Option Addr} {rn c : Nat} {Ac : Nat → Option Addr} {Cc : Nat → Nat} {M : Nat → Bm} (hB : BmAt W2 a rn Ac Cc M) (h0 : 0 < rn) (hr : rn ≤ 1000) (ha : ∀ x, a = some x → W.heap.size ≤ x.block) (hA : ∀ r x, r < rn → Ac r = some x → W.heap.size ≤ x.block)
    (hL : ∀ t, t < rn → LB (Kt k + t) = M t) (hF : ∀ t, t < rn → F (Kt k + t) = (k : Int)) (hK : Kt (k + 1) = Kt k + rn) (hb : Kt (k + 1) ≤ 1000000) : Pk w LB F Kt k v1 v2 v3 A' C' W2 (.slice a rn c) := by
  obtain ⟨x, rfl⟩ := hB.some_ h0
  exact ⟨rn, W.heap.size, x, c, Ac, Cc, rfl, hr, hB.congr (fun _ _ => rfl) (fun _ _ => rfl) (fun r hr' => (hL r hr').symm), ha x rfl, fun r hr' _ y hy => .inl (hA r y hr' hy), hF, fun t ht => by omega, hK.symm, (h.below hb1).below hb2, Win.start h _ hb1.size⟩

end Go.Proofs.Yteeljnibglnflaa
