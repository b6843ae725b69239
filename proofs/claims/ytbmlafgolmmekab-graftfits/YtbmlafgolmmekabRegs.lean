/- What the operations of drawn regions do; an adapter beside a variable that is stored. -/
import Derived.Test.YtbmlafgolmmekabRows
import Derived.Test.YtbmlafgolmmekabView
import Derived.Test.YtbmlafgolmmekabOwn
import Derived.Test.YtbmlafgolmmekabCfg
import Derived.Test.YtbmlafgolmmekabCfgs
import Derived.Test.YtbmlafgolmmekabCfgRef
import Derived.Test.YtbmlafgolmmekabHeld
import Derived.Test.YtbmlafgolmmekabReader
import Derived.Test.YtbmlafgolmmekabSls
import Derived.Test.YtbmlafgolmmekabSteps
import Derived.Test.YtbmlafgolmmekabInv
import Derived.Test.YtbmlafgolmmekabTyped
import Derived.Test.YtbmlafgolmmekabAds
import Derived.Test.YtbmlafgolmmekabRanges
import Derived.Test.YtbmlafgolmmekabPush
import Derived.WalkKit
import Derived.ProofKit
import Derived.OpenShut
import Derived.Below
import Derived.WalkLawsBesides
import Derived.Deep.QuietTactic
import Derived.BigQuiet
import Derived.Lib.QuietBelow
import Derived.Deep.RegionHeld3
import Derived.Orders
import Derived.ArgAppend
import Derived.Maps.AppendAt
namespace Go.Proofs.Ytbmlafgolmmekab
open Go.ChangeShapes Go.WideShapes Go.ChangeAt Go.RowKit
open Go.Sort hiding Below
set_option linter.unusedVariables false
set_option linter.unusedSimpArgs false


theorem run_load26 {w : World} {cb : Nat} {d h l v u x t n : Int} (q : Blk 26 w cb #[.int .i64 d, .int .i64 h, .int .i64 l, .int .i64 v, .int .i64 u, .int .i64 x, .int .i64 t, .int .i64 n]) : (Instr.loadAt 26 (.pointer (some ⟨cb, 0, none⟩))).run Try.prog w = .ok (.agg #[.int .i64 d, .int .i64 h, .int .i64 l, .int .i64 v, .int .i64 u, .int .i64 x, .int .i64 t, .int .i64 n]) w := by
  obtain ⟨c0, c1, c2, c3, c4, c5, c6, c7⟩ := q.cfg
  clear q
  go_simp
theorem run_load24 {w : World} {b : Nat} {R S : Int} {L : SL} (q : Blk 24 w b #[.int .i64 R, .int .i64 S, .slice L.a L.n L.c]) : (Instr.loadAt 24 (.pointer (some ⟨b, 0, none⟩))).run Try.prog w = .ok (.agg #[.int .i64 R, .int .i64 S, .slice L.a L.n L.c]) w := by
  obtain ⟨a0, a1, a2⟩ := q.c3
  clear q
  go_simp
theorem run_load3 {w : World} {p : Addr} {z : Int} (h : w.cell? p = some (.int .i64 z)) : (Instr.loadAt 3 (.pointer (some p))).run Try.prog w = .ok (.int .i64 z) w := by go_simp
theorem run_ad0 (b : Nat) (w : World) : (Instr.fieldAt 24 (.pointer (some ⟨b, 0, none⟩)) 0).run Try.prog w = .ok (.pointer (some ⟨b, 0, none⟩)) w := by go_simp
theorem run_ad1 (b : Nat) (w : World) : (Instr.fieldAt 24 (.pointer (some ⟨b, 0, none⟩)) 1).run Try.prog w = .ok (.pointer (some ⟨b, 1, none⟩)) w := by go_simp
theorem run_alloc24 (w : World) : (Instr.alloc 24 true (.tuple #[])).run Try.prog w = .ok (.pointer (some ⟨w.heap.size, 0, none⟩)) (w.alloc (.cells #[.int .i64 0, .int .i64 0, .slice none 0 0] 24)) := by go_simp
theorem run_store24 {w : World} {b : Nat} (q : Blk 24 w b #[.int .i64 0, .int .i64 0, .slice none 0 0]) (R S : Int) (L : SL) : ∃ w', (Instr.storeAt 24 (.pointer (some ⟨b, 0, none⟩)) (.agg #[.int .i64 R, .int .i64 S, .slice L.a L.n L.c])).run Try.prog w = .ok () w' ∧ Blk 24 w' b #[.int .i64 R, .int .i64 S, .slice L.a L.n L.c] ∧ Only b w w' := by
  obtain ⟨z0, z1, z2⟩ := q.c3
  obtain ⟨o0, o1, o2⟩ := q.o3
  obtain ⟨W6, eW, q6, only, hz⟩ := set3 q (.int .i64 R) (.int .i64 S) (.slice L.a L.n L.c)
  refine ⟨W6, ?_, q6, only⟩
  rw [← eW]
  clear eW q6 only hz q
  go_simp
theorem run_eql28 (x : Int) (w : World) : (binOp .eql 28 (.int .i64 x) (.int .i64 x)).run Try.prog w = .ok (.bool true) w := by go_simp
theorem run_eql9 (s : ByteArray) (w : World) : (binOp .eql 9 (.string s) (.string s)).run Try.prog w = .ok (.bool true) w := by go_simp
theorem run_cat (a b : ByteArray) (h : a.size + b.size ≤ 1000000) (w : World) : (binOp .add 9 (.string a) (.string b)).run Try.prog w = .ok (.string (a ++ b)) w := by
  have h' : a.size + b.size ≤ 9223372036854775807 := by omega
  go_simp

theorem run_ext0 (a b : Value) (w : World) : (Instr.extract (.tuple #[a, b]) 0).run Try.prog w = .ok a w := by simp [Instr.extract]
theorem run_ext1 (a b : Value) (w : World) : (Instr.extract (.tuple #[a, b]) 1).run Try.prog w = .ok b w := by simp [Instr.extract]

/-- an operation of a region, guarded or not -/
def OpIn (ops : Array Oper) (i : Nat) (dst : Option Tmp) (op : Op) (g : Option (Nat × Bool)) (deps : List Nat) : Prop :=
  ∃ o, ops[i]? = some o ∧ o.dst = dst ∧ o.op = op ∧ o.guard = g ∧ deps.all (fun d => o.after.any fun e => e.on == d && Region.binds .any e) = true
theorem Closed.dep' {ops : Array Oper} {l : Nat → Bool} (h : Closed ops l) {i : Nat} {d : Option Tmp} {op : Op} {g : Option (Nat × Bool)} {deps : List Nat} (ho : OpIn ops i d op g deps) (hi : l i = true) : ∀ q ∈ deps, l q = true := by
  obtain ⟨o, e1, _, _, _, e5⟩ := ho
  exact dep_of' e5 fun e he hb => h i o e1 hi e he hb

theorem wpOp_value_g {P : Program} {ops : Array Oper} {Q : Exit → Act → World → Prop} {i gi p : Nat} {o og : Oper} {a : Act} {w w' : World} {v : Value} {K : Act → World → Prop} (ho : ops[i]? = some o) (hg : o.guard = some (gi, true)) (hgo : ops[gi]? = some og) (hgd : og.dst = some p) (hp : p < a.tmps.size) (hb : a.tmps.getD p undef = .bool true)
    (hr : (execOp a.eval o).run P w = .ok (.value v) w') (hK : K (a.put o.dst v) w') : wpOp P ops Q i K a w := by
  have hy : yielded ops a.tmps gi = some true := by
    unfold yielded
    rw [hgo]
    simp only [Option.bind_some, hgd]
    rw [Array.getD_eq_getD_getElem?] at hb
    rw [Array.getElem?_eq_getElem hp] at hb ⊢
    simp only [Option.getD_some] at hb
    rw [hb]
  unfold wpOp
  simp only [ho]
  have hw : Region.wanted o (yielded ops a.tmps) = true := by simp [Region.wanted, hg, hy]
  rw [if_pos hw]
  refine .inl ?_
  unfold Oper.wp
  rw [hr]
  exact hK
theorem wpOp_call_g {P : Program} {ops : Array Oper} {Q : Exit → Act → World → Prop} {i gi p : Nat} {o og : Oper} {a : Act} {w : World} {f : FuncId} {args : Array Value} {K : Act → World → Prop} (ho : ops[i]? = some o) (hg : o.guard = some (gi, true)) (hgo : ops[gi]? = some og) (hgd : og.dst = some p) (hp : p < a.tmps.size) (hb : a.tmps.getD p undef = .bool true)
    (hr : (execOp a.eval o).run P w = .ok (.enter f args) w) (c : Calls P f args w fun e w' => ∃ v, e = .returned v ∧ K (a.put o.dst v) w') : wpOp P ops Q i K a w := by
  have hy : yielded ops a.tmps gi = some true := by
    unfold yielded
    rw [hgo]
    simp only [Option.bind_some, hgd]
    rw [Array.getD_eq_getD_getElem?] at hb
    rw [Array.getElem?_eq_getElem hp] at hb ⊢
    simp only [Option.getD_some] at hb
    rw [hb]
  unfold wpOp
  simp only [ho]
  have hw : Region.wanted o (yielded ops a.tmps) = true := by simp [Region.wanted, hg, hy]
  rw [if_pos hw]
  refine .inl ?_
  unfold Oper.wp
  rw [hr]
  unfold Oper.upon
  refine c.mono ?_
  rintro e w' ⟨v, rfl, hK⟩
  exact hK


/-- no cell of a list of weights lies in a block that holds an adapter -/
theorem cell24 {w : World} {G : Nat} {a b : Int} {sa : Option Addr} {sn sc : Nat} (q : Blk 24 w G #[.int .i64 a, .int .i64 b, .slice sa sn sc]) {p : Addr} {z : Int} (h : w.cell? p = some (.int .i8 z)) : p.block ≠ G := by
  intro e
  obtain ⟨pb, po, pp⟩ := p
  have e' : pb = G := e
  subst e'
  cases pp with
  | some x => simp [World.cell?, show w.heap[pb]? = _ from q] at h
  | none =>
    simp only [World.cell?, show w.heap[pb]? = _ from q] at h
    match po, h with
    | 0, h => simp at h
    | 1, h => simp at h
    | 2, h => simp at h
    | n + 3, h => simp at h
theorem IsS.other24 {w w' : World} {G : Nat} {a b : Int} {sa : Option Addr} {sn sc : Nat} {t : SL} {zs : List Int} (h : IsS w t zs) (o : Only G w w') (q : Blk 24 w G #[.int .i64 a, .int .i64 b, .slice sa sn sc]) : IsS w' t zs :=
  ⟨⟨h.reads.len, h.reads.max, h.reads.wf, h.reads.some_, fun x hx i hi => o.cell (h.reads.cell x hx i hi) (fun e => cell24 q (h.reads.cell x hx i hi) (Option.some.inj e))⟩, h.nil, h.cap⟩
theorem AdAt.other24 {w w' : World} {G : Nat} {a b : Int} {sa : Option Addr} {sn sc : Nat} {L : SL} {Y : Nat → Nat → SL} {m : AdV} (h : AdAt w L Y m) (o : Only G w w') (q : Blk 24 w G #[.int .i64 a, .int .i64 b, .slice sa sn sc]) : AdAt w' L Y m := by
  refine ⟨h.len, h.some_, h.nil, h.cap, fun x hx i hi j hj => o.cell (h.cell x hx i hi j hj) (fun e => ?_), fun i hi j hj => (h.lay i hi j hj).other24 o q⟩
  have eb : ((x.add (i * 4)).add j).block = G := Option.some.inj e
  have blk : ∀ (p : Addr) n, (p.add n).block = p.block := fun p n => by unfold Addr.add; split <;> rfl
  obtain ⟨P, eP⟩ : ∃ P, x.add (i * 4) = P := ⟨_, rfl⟩
  have h1 := h.cell x hx i hi 1 (by decide)
  have h2 := h.cell x hx i hi 2 (by decide)
  rw [eP] at eb h1 h2
  rw [blk] at eb
  have h1' : w.cell? ⟨P.block, P.off + 1, none⟩ = some (Y i 1).v := h1
  have h2' : w.cell? ⟨P.block, P.off + 2, none⟩ = some (Y i 2).v := h2
  rw [eb] at h1' h2'
  simp only [World.cell?, show w.heap[G]? = _ from q] at h1' h2'
  have o1 : P.off = 1 := by
    match hP : P.off, h1' with
    | 0, h => simp [SL.v] at h
    | 1, _ => rfl
    | n + 2, h => simp at h
  rw [o1] at h2'
  simp at h2'

theorem Blk.below {t : TypeId} {w w' : World} {b : Nat} {cs : Array Value} (h : Blk t w b cs) (hb : Below w.heap.size w w') : Blk t w' b cs := h.kept hb
theorem Blk.other24 {w w' : World} {G g : Nat} {cs cs' : Array Value} (h : Blk 41 w g cs) (o : Only G w w') (q : Blk 24 w G cs') : Blk 41 w' g cs := (Keeps.of_only o q (by decide)).blk h

end Go.Proofs.Ytbmlafgolmmekab
