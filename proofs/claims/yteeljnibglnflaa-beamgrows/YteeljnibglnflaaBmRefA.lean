/- Beams, whose they are and their scores in three rows side by side: what an append keeps. -/
import Derived.Test.YteeljnibglnflaaRows
import Derived.Test.YteeljnibglnflaaView
import Derived.Test.YteeljnibglnflaaOwn
import Derived.Test.YteeljnibglnflaaWhere
import Derived.Test.YteeljnibglnflaaBmZ
import Derived.Test.YteeljnibglnflaaBmAt
import Derived.Test.YteeljnibglnflaaBmRun
import Derived.Test.YteeljnibglnflaaBmWhole
import Derived.Test.YteeljnibglnflaaBmCand
import Derived.WalkKit
import Derived.ProofKit
import Derived.OpenShut
import Derived.WalkLawsBesides
import Derived.Below
import Derived.Deep.QuietTactic
import Derived.BigQuiet
import Derived.Laws.AppendOwnNone
import Derived.Laws.OwnMore
import Derived.Maps.AppendAt
namespace Go.Proofs.Yteeljnibglnflaa
set_option maxRecDepth 20000
open Go.ChangeShapes Go.WideShapes Go.ChangeAt Go.RowKit
set_option linter.unusedVariables false
set_option linter.unusedSimpArgs false

/-- beams beside an append to another row -/
theorem OwnBm.other {B : Nat} {w w' : World} {e : TypeId} {v v2 : Value} {k : Nat} {A : Nat → Option Addr} {C : Nat → Nat} {L : Nat → Bm} (h : OwnBm B w e v k A C L) (hg : w.grownBy w' v2.ownBlock) (ha : Apart v v2) (ht : ∀ r, r < k → 0 < (L r).t.length → ∀ x, A r = some x → v2.ownBlock ≠ some x.block) : OwnBm B w' e v k A C L := by
  refine ⟨h.own.kept hg ?_, fun r hr => (h.row r hr).grown hg (fun h0 x hx g hv e2 => ht r hr h0 x hx (by rw [hv, e2])), h.apart, h.nil, h.wf⟩
  cases hv : v.ownBlock with
  | none => exact .inl rfl
  | some g => exact .inr fun e => ha g hv e.symm

/-- where a row lies behind an append -/
def Stay (w : World) (v v' : Value) : Prop := v'.ownBlock = v.ownBlock ∨ ∃ g, v'.ownBlock = some g ∧ w.heap.size ≤ g

theorem Stay.apart {w : World} {B : Nat} {e : TypeId} {s n : Nat} {xs : List Value} {u v v' : Value} (h : Stay w v v') (hu : w.ownsRow B e s u n xs) (ha : Apart v u) : Apart v' u := by
  intro g hg hu2
  rcases h with e | ⟨g2, e, hg2⟩
  · exact ha g (e ▸ hg) hu2
  · rw [e] at hg
    obtain rfl := Option.some.inj hg
    have := (hu.lt _ hu2).2
    omega

/-- beams, whose they are and their scores, in three rows of the call's own -/
structure RA (w W : World) (va vf vs : Value) (k1 k2 k3 : Nat) (A : Nat → Option Addr) (C : Nat → Nat) (LB : Nat → Bm) (F : Nat → Int) : Prop where
  bel : Below w.heap.size w W
  o1 : OwnBm w.heap.size W 42 va k1 A C LB
  o2 : W.ownsRow w.heap.size 3 1 vf k2 (gath F .i64 k2)
  o3 : W.ownsRow w.heap.size 2 1 vs k3 (gath (fun t => (LB t).s) .i64 k3)
  a12 : Apart va vf
  a13 : Apart va vs
  a23 : Apart vf vs
  t2 : ∀ r, r < k1 → 0 < (LB r).t.length → ∀ x, A r = some x → vf.ownBlock ≠ some x.block
  t3 : ∀ r, r < k1 → 0 < (LB r).t.length → ∀ x, A r = some x → vs.ownBlock ≠ some x.block

theorem RA.start (w : World) (A : Nat → Option Addr) (C : Nat → Nat) (LB : Nat → Bm) (F : Nat → Int) : RA w w (.slice none 0 0) (.slice none 0 0) (.slice none 0 0) 0 0 0 A C LB F :=
  ⟨Below.refl _ _, OwnBm.start _ _ _ _ _ _, World.ownsRow_nil _ _ _ _, World.ownsRow_nil _ _ _ _, Apart.nil _, Apart.nil _, Apart.nil _, (fun r h => by omega), (fun r h => by omega)⟩

theorem RA.below {w W W' : World} {va vf vs : Value} {k1 k2 k3 : Nat} {A : Nat → Option Addr} {C : Nat → Nat} {LB : Nat → Bm} {F : Nat → Int} (h : RA w W va vf vs k1 k2 k3 A C LB F) (hb : Below W.heap.size W W') : RA w W' va vf vs k1 k2 k3 A C LB F :=
  ⟨below_then h.bel hb, h.o1.below hb, own_below3 h.o2 hb, own_below3 h.o3 hb, h.a12, h.a13, h.a23, h.t2, h.t3⟩

theorem tok_lt {w : World} {a : Option Addr} {zs : List Int} (q : Reads .i64 w a zs.length zs) (h0 : 0 < zs.length) {x : Addr} (hx : a = some x) : x.block < w.heap.size := by
  have := World.block_lt_of_cell? w _ (q.cell x hx 0 h0)
  simpa [Addr.add] using this

theorem Stay.tok {W : World} {v v' : Value} (st : Stay W v v') {a : Option Addr} {zs : List Int} (q : Reads .i64 W a zs.length zs) (h0 : 0 < zs.length) {x : Addr} (hx : a = some x) (hn : v.ownBlock ≠ some x.block) : v'.ownBlock ≠ some x.block := by
  intro e
  rcases st with e2 | ⟨g, e2, hg⟩
  · exact hn (e2 ▸ e)
  · rw [e2] at e
    have h1 := Option.some.inj e
    have := tok_lt q h0 hx
    omega

/-- a beam more -/
theorem RA.s1 {w W W' : World} {va vf vs va' : Value} {k1 k2 k3 : Nat} {A : Nat → Option Addr} {C : Nat → Nat} {LB : Nat → Bm} {F : Nat → Int} (h : RA w W va vf vs k1 k2 k3 A C LB F) (o : Obj) {p : Option Addr} {c : Nat} (ho : OwnBm w.heap.size W' 42 va' (k1 + 1) (fun r => if r = k1 then p else A r) (fun r => if r = k1 then c else C r) LB) (hg : (W.alloc o).grownBy W' va.ownBlock) (st : Stay W va va')
    (p2 : 0 < (LB k1).t.length → ∀ x, p = some x → vf.ownBlock ≠ some x.block) (p3 : 0 < (LB k1).t.length → ∀ x, p = some x → vs.ownBlock ≠ some x.block) : RA w W' va' vf vs (k1 + 1) k2 k3 (fun r => if r = k1 then p else A r) (fun r => if r = k1 then c else C r) LB F := by
  have hbz := h.bel.size
  refine ⟨(h.bel.alloc hbz o).grown hg (by simp; omega) (fun g hv => (h.o1.own.lt g hv).1), ho, other_kept (v' := va') (h.o2.alloc o) h.a12.symm hg, other_kept (v' := va') (h.o3.alloc o) h.a13.symm hg, st.apart h.o2 h.a12, st.apart h.o3 h.a13, h.a23, fun r hr h0 x hx => ?_, fun r hr h0 x hx => ?_⟩
  · by_cases e : r = k1
    · subst e; simp only [if_true] at hx; exact p2 h0 x hx
    · simp only [if_neg e] at hx; exact h.t2 r (by omega) h0 x hx
  · by_cases e : r = k1
    · subst e; simp only [if_true] at hx; exact p3 h0 x hx
    · simp only [if_neg e] at hx; exact h.t3 r (by omega) h0 x hx

theorem RA.s2 {w W W' : World} {va vf vs vf' : Value} {k1 k2 k3 : Nat} {A : Nat → Option Addr} {C : Nat → Nat} {LB : Nat → Bm} {F : Nat → Int} (h : RA w W va vf vs k1 k2 k3 A C LB F) (o : Obj) (ho : W'.ownsRow w.heap.size 3 1 vf' (k2 + 1) (gath F .i64 k2 ++ [.int .i64 (F k2)])) (hg : (W.alloc o).grownBy W' vf.ownBlock) (st : Stay W vf vf') : RA w W' va vf' vs k1 (k2 + 1) k3 A C LB F := by
  have hbz := h.bel.size
  have bo := below_new (Below.refl W.heap.size W) o
  refine ⟨(h.bel.alloc hbz o).grown hg (by simp; omega) (fun g hv => (h.o2.lt g hv).1), (h.o1.below bo).other hg h.a12 h.t2, by rw [gath_succ]; exact ho, other_kept (v' := vf') (h.o3.alloc o) h.a23.symm hg, (st.apart h.o1.own h.a12.symm).symm, h.a13, st.apart h.o3 h.a23, fun r hr h0 x hx => ?_, h.t3⟩
  exact st.tok (h.o1.row r hr) h0 hx (h.t2 r hr h0 x hx)

theorem RA.s3 {w W W' : World} {va vf vs vs' : Value} {k1 k2 k3 : Nat} {A : Nat → Option Addr} {C : Nat → Nat} {LB : Nat → Bm} {F : Nat → Int} (h : RA w W va vf vs k1 k2 k3 A C LB F) (o : Obj) (ho : W'.ownsRow w.heap.size 2 1 vs' (k3 + 1) (gath (fun t => (LB t).s) .i64 k3 ++ [.int .i64 (LB k3).s])) (hg : (W.alloc o).grownBy W' vs.ownBlock) (st : Stay W vs vs') : RA w W' va vf vs' k1 k2 (k3 + 1) A C LB F := by
  have hbz := h.bel.size
  have bo := below_new (Below.refl W.heap.size W) o
  refine ⟨(h.bel.alloc hbz o).grown hg (by simp; omega) (fun g hv => (h.o3.lt g hv).1), (h.o1.below bo).other hg h.a13 h.t3, other_kept (v' := vs') (h.o2.alloc o) h.a23 hg, by rw [gath_succ]; exact ho, h.a12, (st.apart h.o1.own h.a13.symm).symm, (st.apart h.o2 h.a23.symm).symm, h.t2, fun r hr h0 x hx => ?_⟩
  exact st.tok (h.o1.row r hr) h0 hx (h.t3 r hr h0 x hx)

/-- blocks from N on, up to the size of Wc, are as they were; the three rows lie elsewhere -/
structure Win (Wc : World) (N : Nat) (W : World) (va vf vs : Value) : Prop where
  size : Wc.heap.size ≤ W.heap.size
  keep : ∀ p u, N ≤ p.block → Wc.cell? p = some u → W.cell? p = some u
  x1 : ∀ g, va.ownBlock = some g → g < N ∨ Wc.heap.size ≤ g
  x2 : ∀ g, vf.ownBlock = some g → g < N ∨ Wc.heap.size ≤ g
  x3 : ∀ g, vs.ownBlock = some g → g < N ∨ Wc.heap.size ≤ g

theorem Win.rot {Wc : World} {N : Nat} {W : World} {va vf vs : Value} (h : Win Wc N W va vf vs) : Win Wc N W vf vs va := ⟨h.size, h.keep, h.x2, h.x3, h.x1⟩

theorem Win.step {Wc : World} {N : Nat} {W W' : World} {va vf vs va' : Value} (h : Win Wc N W va vf vs) (o : Obj) (hg : (W.alloc o).grownBy W' va.ownBlock) (st : Stay W va va') : Win Wc N W' va' vf vs := by
  have h1 := h.size
  have h2 := hg.size
  have h3 : (W.alloc o).heap.size = W.heap.size + 1 := by simp
  refine ⟨by omega, fun p u hp hu => hg.cell (alloc_keep _ _ _ _ (h.keep p u hp hu)) (fun e => ?_), fun g hv => ?_, h.x2, h.x3⟩
  · have h4 := World.block_lt_of_cell? Wc p hu
    rcases h.x1 _ e.symm with h5 | h5 <;> omega
  · rcases st with e | ⟨g2, e, hg2⟩
    · exact h.x1 g (e ▸ hv)
    · rw [e] at hv
      obtain rfl := Option.some.inj hv
      exact .inr (by omega)

/-- beams that lie within the window, or whose tokens were there from the start -/
theorem Win.bm {w Wc : World} {N : Nat} {W : World} {va vf vs : Value} (h : Win Wc N W va vf vs) (hb : Below w.heap.size w W) {a : Option Addr} {n : Nat} {A : Nat → Option Addr} {C : Nat → Nat} {L : Nat → Bm} (hB : BmAt Wc a n A C L) (ha : ∀ x, a = some x → N ≤ x.block) (ht : ∀ r, r < n → 0 < (L r).t.length → ∀ x, A r = some x → N ≤ x.block ∨ Reads .i64 w (A r) (L r).t.length (L r).t) : BmAt W a n A C L := by
  refine ⟨hB.max, hB.some_, fun x hx r hr => ?_, fun r hr => ?_, hB.nil, hB.wf⟩
  · have e : ∀ (y : Addr) i, (y.add i).block = y.block := fun y i => by simp only [Addr.add]; split <;> rfl
    obtain ⟨d0, d1, d2⟩ := hB.cell x hx r hr
    have h1 := ha x hx
    exact ⟨h.keep _ _ (by rw [e]; exact h1) d0, h.keep _ _ (by rw [e, e]; exact h1) d1, h.keep _ _ (by rw [e, e]; exact h1) d2⟩
  · have q := hB.row r hr
    by_cases h0 : 0 < (L r).t.length
    · obtain ⟨x, hx⟩ := q.some_ h0
      rcases ht r hr h0 x hx with h1 | h1
      · refine ⟨q.len, q.max, q.wf, q.some_, fun y hy i hi => h.keep _ _ ?_ (q.cell y hy i hi)⟩
        have e : (y.add i).block = y.block := by simp only [Addr.add]; split <;> rfl
        rw [e]
        obtain rfl := Option.some.inj (hx.symm.trans hy)
        exact h1
      · exact h1.below hb
    · exact ⟨q.len, q.max, q.wf, q.some_, fun y hy i hi => by omega⟩

/-- a beam appended, in a walk -/
theorem wpList_bmpush {ops : Array Oper} {rest : List Oper} {o : Oper} {a : Act} {Q : Exit → Act → World → Prop} {w : World} (hgd : o.guard = none) (s x : Operand) (t : TypeId) (ho : o.op = .call { callee := .builtin .append, args := #[s, x], argTypes := #[t, t] }) {B : Nat} {e : TypeId} (v : Value) (k : Nat) {A : Nat → Option Addr} {C : Nat → Nat} {L : Nat → Bm} (h : OwnBm B w e v k A C L)
    (ht : Try.prog.underlying t = some (.slice e)) (hinfo : (Try.prog.info? e).map (fun i => (i.zero, i.size, i.bytes)) = some (some (.agg #[.slice none 0 0, .int .i64 0, .bool false]), 3, 40)) (hB : B ≤ w.heap.size) (hk : k ≤ 1000000) (p : Option Addr) (c : Nat) (n0 : Nat) (s0 : Int) (f0 : Bool) (e1 : (L k).t.length = n0) (e2 : (L k).s = s0) (e3 : (L k).f = f0)
    (hs : a.eval s = v) (hx : a.eval x = .slice (some ⟨w.heap.size, 0, none⟩) 1 1)
    (hr : Reads .i64 w p (L k).t.length (L k).t) (hp : 0 < (L k).t.length → ∀ x, p = some x → ∀ g, v.ownBlock = some g → x.block ≠ g) (hn : p = none → c = 0) (hw : (Lit.int .i64 (L k).s).wf = true)
    (K : ∀ v' w', OwnBm B w' e v' (k + 1) (fun r => if r = k then p else A r) (fun r => if r = k then c else C r) L → (w.alloc (.cells #[.slice p n0 c, .int .i64 s0, .bool f0] e)).grownBy w' v.ownBlock → Stay w v v' → wpList Try.prog ops Q rest (a.put o.dst v') w') :
    wpList Try.prog ops Q (o :: rest) a (w.alloc (.cells #[.slice p n0 c, .int .i64 s0, .bool f0] e)) := by
  subst e1 e2 e3
  obtain ⟨i0, hi, hz0, hz1, hz2⟩ := info_parts hinfo
  have b1 := below_new (Below.refl w.heap.size w) (.cells #[.slice p (L k).t.length c, .int .i64 (L k).s, .bool (L k).f] e)
  refine wpList_append_own_at _ hgd s x t ho B e i0 _ 3 40 ht hi hz0 hz1 hz2 rfl (by decide) v k _ hs (h.own.alloc _) ⟨w.heap.size, 0, none⟩ 1 1 [.slice p (L k).t.length c, .int .i64 (L k).s, .bool (L k).f] hx rfl (lit_new w _ e) (cell3 _ _ _ rfl rfl rfl) (by unfold maxLen; omega) (by omega) (by have := b1.size; omega) ?_
  intro v' w' ho' hg _ hs'
  refine K v' w' ((h.below b1).app (hr.below b1) hp hn hw ho' hg (hs'.imp_right fun e => by simpa using e)) hg (hs'.imp_right fun e => ⟨_, e, by simp⟩)

/-- a number appended, in a walk -/
theorem wpList_intpush {ops : Array Oper} {rest : List Oper} {o : Oper} {a : Act} {Q : Exit → Act → World → Prop} {w : World} (hgd : o.guard = none) (s x : Operand) (t : TypeId) (ho : o.op = .call { callee := .builtin .append, args := #[s, x], argTypes := #[t, t] }) {B : Nat} {e : TypeId} (v : Value) (k : Nat) (xs : List Value) (h : w.ownsRow B e 1 v k xs)
    (ht : Try.prog.underlying t = some (.slice e)) (hinfo : (Try.prog.info? e).map (fun i => (i.zero, i.size, i.bytes)) = some (some (.int .i64 0), 1, 8)) (hB : B ≤ w.heap.size) (hk : k ≤ 1000000) (z : Int)
    (hs : a.eval s = v) (hx : a.eval x = .slice (some ⟨w.heap.size, 0, none⟩) 1 1)
    (K : ∀ v' w', w'.ownsRow B e 1 v' (k + 1) (xs ++ [.int .i64 z]) → (w.alloc (.cells #[.int .i64 z] e)).grownBy w' v.ownBlock → Stay w v v' → wpList Try.prog ops Q rest (a.put o.dst v') w') :
    wpList Try.prog ops Q (o :: rest) a (w.alloc (.cells #[.int .i64 z] e)) := by
  obtain ⟨i0, hi, hz0, hz1, hz2⟩ := info_parts hinfo
  have b1 := below_new (Below.refl w.heap.size w) (.cells #[.int .i64 z] e)
  refine wpList_append_own_at _ hgd s x t ho B e i0 _ 1 8 ht hi hz0 hz1 hz2 rfl (by decide) v k _ hs (h.alloc _) ⟨w.heap.size, 0, none⟩ 1 1 [.int .i64 z] hx rfl (one_new _ _ _) (one_oneCell _ _) (by unfold maxLen; omega) (by omega) (by have := b1.size; omega) ?_
  intro v' w' ho' hg _ hs'
  exact K v' w' ho' hg (hs'.imp_right fun e => ⟨_, e, by simp⟩)

/-- a row of the call's own is told apart from what lies in a window, or was there from the start -/
theorem Win.off {w Wc : World} {N : Nat} {W : World} {va vf vs : Value} (h : Win Wc N W va vf vs) {e : TypeId} {s n : Nat} {xs : List Value} (ho : W.ownsRow w.heap.size e s va n xs) {a : Option Addr} {zs : List Int} (q : Reads .i64 Wc a zs.length zs) (h0 : 0 < zs.length) {x : Addr} (hx : a = some x) (ht : N ≤ x.block ∨ Reads .i64 w a zs.length zs) : va.ownBlock ≠ some x.block := by
  intro e
  have h1 := tok_lt q h0 hx
  rcases ht with h2 | h2
  · rcases h.x1 _ e with h3 | h3 <;> omega
  · have h3 := tok_lt h2 h0 hx
    have h4 := (ho.lt _ e).1
    omega

end Go.Proofs.Yteeljnibglnflaa
