/- Four rows that a call makes, appended to in turn; an append within a region that draws its order. -/
import Derived.Test.YtdpodanhokihlaaRows
import Derived.Test.YtdpodanhokihlaaView
import Derived.Test.YtdpodanhokihlaaOwn
import Derived.Test.YtdpodanhokihlaaWhere
import Derived.WalkKit
import Derived.ProofKit
import Derived.OpenShut
import Derived.Below
import Derived.Deep.RegionLaw
namespace Go.Proofs.Ytdpodanhokihlaa
open Go.ChangeShapes Go.WideShapes Go.ChangeAt Go.RowKit
set_option linter.unusedVariables false

/-- a row: its elements' type, its value, its length, its cells -/
structure Rw where
  e : TypeId
  v : Value
  n : Nat
  xs : List Value

structure Quad (B : Nat) (w : World) (a b c d : Rw) : Prop where
  oa : w.ownsRow B a.e 1 a.v a.n a.xs
  ob : w.ownsRow B b.e 1 b.v b.n b.xs
  oc : w.ownsRow B c.e 1 c.v c.n c.xs
  od : w.ownsRow B d.e 1 d.v d.n d.xs
  ab : Apart a.v b.v
  ac : Apart a.v c.v
  ad : Apart a.v d.v
  bc : Apart b.v c.v
  bd : Apart b.v d.v
  cd : Apart c.v d.v

theorem Quad.rot {B : Nat} {w : World} {a b c d : Rw} (h : Quad B w a b c d) : Quad B w b c d a :=
  ⟨h.ob, h.oc, h.od, h.oa, h.bc, h.bd, h.ab.symm, h.cd, h.ac.symm, h.ad.symm⟩

theorem Quad.alloc {B : Nat} {w : World} {a b c d : Rw} (h : Quad B w a b c d) (o : Obj) : Quad B (w.alloc o) a b c d :=
  ⟨h.oa.alloc o, h.ob.alloc o, h.oc.alloc o, h.od.alloc o, h.ab, h.ac, h.ad, h.bc, h.bd, h.cd⟩

theorem Quad.drew {B : Nat} {w : World} {a b c d : Rw} (h : Quad B w a b c d) : Quad B w.drew a b c d :=
  ⟨h.oa, h.ob, h.oc, h.od, h.ab, h.ac, h.ad, h.bc, h.bd, h.cd⟩

/-- behind an append to the first -/
theorem Quad.app {B : Nat} {w w' : World} {a b c d : Rw} (h : Quad B w a b c d) {v' : Value} {n' : Nat} {xs' : List Value} (ho : w'.ownsRow B a.e 1 v' n' xs') (hg : w.grownBy w' a.v.ownBlock) (hs : Stays w a.v v') :
    Quad B w' ⟨a.e, v', n', xs'⟩ b c d :=
  ⟨ho, other_kept (v' := v') h.ob h.ab.symm hg, other_kept (v' := v') h.oc h.ac.symm hg, other_kept (v' := v') h.od h.ad.symm hg,
    (other_apart h.ob h.ab.symm hs).symm, (other_apart h.oc h.ac.symm hs).symm, (other_apart h.od h.ad.symm hs).symm, h.bc, h.bd, h.cd⟩

theorem Quad.nil (B : Nat) (w : World) (e1 e2 e3 e4 : TypeId) (x1 x2 x3 x4 : List Value) (h1 : x1 = []) (h2 : x2 = []) (h3 : x3 = []) (h4 : x4 = []) :
    Quad B w ⟨e1, .slice none 0 0, 0, x1⟩ ⟨e2, .slice none 0 0, 0, x2⟩ ⟨e3, .slice none 0 0, 0, x3⟩ ⟨e4, .slice none 0 0, 0, x4⟩ := by
  subst h1 h2 h3 h4
  exact ⟨World.ownsRow_nil _ _ _ _, World.ownsRow_nil _ _ _ _, World.ownsRow_nil _ _ _ _, World.ownsRow_nil _ _ _ _, Apart.nil _, Apart.nil _, Apart.nil _, Apart.nil _, Apart.nil _, Apart.nil _⟩

theorem step_append_where {P : Program} {ops : Array Oper} {o : Oper} {a : Act} {w : World} {K : Act → World → Prop} {Q : Exit → Act → World → Prop} {E : Prop}
    (hg : o.guard = none) (s x : Operand) (t : TypeId) (hop : o.op = Op.call { callee := Callee.builtin Builtin.append, args := #[s, x], argTypes := #[t, t] })
    (base : Nat) (e : TypeId) (i : TypeInfo) (z : Value) (bytes : Nat) (ht : P.underlying t = some (.slice e)) (hi : P.info? e = some i) (hz : i.zero = some z)
    (hsize : i.size = 1) (hby : i.bytes = bytes) (hzs : z.cells.size = 1) (v : Value) (n : Nat) (xs : List Value) (hs : a.eval s = v) (hown : w.ownsRow base e 1 v n xs)
    (ad : Addr) (c : Nat) (V : Value) (hx : a.eval x = .slice (some ad) 1 c) (hnews : ∀ j u, [V][j]? = some u → w.cell? (ad.add j) = some u) (h1 : ∀ u ∈ [V], u.oneCell' = true)
    (h63 : n + 1 ≤ maxLen) (hbytes : (n + 1) * bytes ≤ 140737488355328) (hbase : base ≤ w.heap.size)
    (h : ∀ v' w', w'.ownsRow base e 1 v' (n + 1) (xs ++ [V]) → w.grownBy w' v.ownBlock → Stays w v v' → K (a.put o.dst v') w') :
    if Region.wanted o (yielded ops a.tmps) = true then Oper.wp P o a w K Q else E := by
  have hw : Region.wanted o (yielded ops a.tmps) = true := by simp [Region.wanted, hg]
  rw [if_pos hw]
  exact wp_append_where w s x t hop base e i z bytes ht hi hz hsize hby hzs v n xs hs hown ad c V hx hnews h1 h63 hbytes hbase h

/-- a new cell of a world that was there ahead of an append is there behind it -/
theorem new_kept {w w' : World} {r : Option Nat} (hg : w.grownBy w' r) {g : Nat} (hr : ∀ k, r = some k → k ≠ g) {V : Value} (h : ∀ j u, [V][j]? = some u → w.cell? ((⟨g, 0, none⟩ : Addr).add j) = some u) :
    ∀ j u, [V][j]? = some u → w'.cell? ((⟨g, 0, none⟩ : Addr).add j) = some u := by
  intro j u hj
  have hc := h j u hj
  rw [Addr.add_lit] at hc ⊢
  refine hg.cell hc fun e => ?_
  exact hr _ e.symm rfl

theorem one_newA (w : World) (V : Value) (t : TypeId) (o : Obj) : ∀ j u, [V][j]? = some u → ((w.alloc (.cells #[V] t)).alloc o).cell? ((⟨w.heap.size, 0, none⟩ : Addr).add j) = some u := by
  intro j u hj
  have h := one_new w V t j u hj
  rw [Addr.add_lit] at h ⊢
  rw [World.cell?_alloc_past _ _ _ (by show w.heap.size < (w.heap.push _).size; simp)]
  exact h

theorem one_newB (w : World) (V : Value) (t : TypeId) (o : Obj) : ∀ j u, [V][j]? = some u → ((w.alloc o).alloc (.cells #[V] t)).cell? ((⟨w.heap.size + 1, 0, none⟩ : Addr).add j) = some u := by
  have h := one_new (w.alloc o) V t
  have e : (w.alloc o).heap.size = w.heap.size + 1 := by show (w.heap.push _).size = _; simp
  rw [e] at h
  exact h

theorem one_newAD (w : World) (V : Value) (t : TypeId) (o : Obj) : ∀ j u, [V][j]? = some u → ((w.alloc (.cells #[V] t)).alloc o).drew.cell? ((⟨w.heap.size, 0, none⟩ : Addr).add j) = some u := one_newA w V t o
theorem one_newBD (w : World) (V : Value) (t : TypeId) (o : Obj) : ∀ j u, [V][j]? = some u → ((w.alloc o).alloc (.cells #[V] t)).drew.cell? ((⟨w.heap.size + 1, 0, none⟩ : Addr).add j) = some u := one_newB w V t o

end Go.Proofs.Ytdpodanhokihlaa
