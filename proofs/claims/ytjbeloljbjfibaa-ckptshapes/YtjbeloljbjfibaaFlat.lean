/- Flat: all weights of a model in order, by visit. -/
import Derived.Test.YtjbeloljbjfibaaRows
import Derived.Test.YtjbeloljbjfibaaLayer8
import Derived.Test.YtjbeloljbjfibaaConf
import Derived.Test.YtjbeloljbjfibaaBlank
import Derived.Test.YtjbeloljbjfibaaCfgRef
import Derived.Test.YtjbeloljbjfibaaSize
import Derived.Test.YtjbeloljbjfibaaSizes
import Derived.Test.YtjbeloljbjfibaaSteps
import Derived.Test.YtjbeloljbjfibaaClo54
import Derived.Test.YtjbeloljbjfibaaFill
import Derived.Test.YtjbeloljbjfibaaMods
import Derived.Test.YtjbeloljbjfibaaV45
import Derived.Test.YtjbeloljbjfibaaFills
import Derived.Test.YtjbeloljbjfibaaShape
import Derived.Test.YtjbeloljbjfibaaShapes
import Derived.Test.YtjbeloljbjfibaaCheck
import Derived.Test.YtjbeloljbjfibaaChecks
import Derived.Test.YtjbeloljbjfibaaDims
import Derived.Test.YtjbeloljbjfibaaClo45
import Derived.WalkKit
import Derived.ProofKit
import Derived.OpenShut
import Derived.Below
import Derived.WalkLawsBesides
import Derived.Deep.QuietTactic
import Derived.BigQuiet
import Derived.Deep.RegionWith
import Derived.Deep.RegionHeld3
import Derived.Deep.OwnRows
namespace Go.Proofs.Ytjbeloljbjfibaa
open Go.ChangeShapes Go.WideShapes Go.ChangeAt Go.RowKit
set_option linter.unusedVariables false


/-- the first k lists one behind the other -/
def flatTo (S : Nat → List Int) (k : Nat) : List Int := (List.range k).flatMap S

theorem flat_succ (S : Nat → List Int) (k : Nat) : flatTo S (k + 1) = flatTo S k ++ S k := by
  simp [flatTo, List.range_succ]

theorem flat_len (S : Nat → List Int) (cnt : Nat → Nat) (T : Nat) (h : ∀ k, k < T → (S k).length = cnt k) (k : Nat) (hk : k ≤ T) : (flatTo S k).length = offs cnt k := by
  induction k with
  | zero => rfl
  | succ k ih => rw [flat_succ, List.length_append, ih (by omega), h k (by omega)]; rfl

theorem blk_add (p : Addr) (i : Nat) : (p.add i).block = p.block := by
  unfold Addr.add
  split <;> rfl

/-- the variable at vb holds a row of the call's own: the first k lists -/
def Gathered (vb base : Nat) (S : Nat → List Int) (k : Nat) (W : World) : Prop :=
  ∃ va vc, Blk 26 W vb #[.slice va (flatTo S k).length vc] ∧ W.ownsRow base 46 1 (.slice va (flatTo S k).length vc) (flatTo S k).length ((flatTo S k).map (Value.int .i8))

theorem flat_visit (h v u x t n : Int) (ln ne D DD XD UD VD mb vb Lc : Nat) (x0 : Addr) (E L N O : SL) (Y U Dn : Nat → Nat → SL) (m : ModV) (e1 : v * (D : Int) = (VD : Int)) (e2 : (D : Int) * (D : Int) = (DD : Int)) (e3 : x * (D : Int) = (XD : Int)) (e4 : u * (D : Int) = (UD : Int))
    (b0 : D ≤ 1000) (b1 : VD ≤ 1000) (b2 : DD ≤ 1000) (b3 : XD ≤ 1000) (b4 : UD ≤ 1000) (l1 : ln ≤ 4) (hln0 : 0 < ln) (l2 : ne ≤ 4) (hne : 0 < ne) (w wM : World) (hM : ModAt wM E L N O Y U Dn m) (hbM : Below wM.heap.size wM w)
    (qm : Blk 29 w mb #[.int .i64 (D : Int), .int .i64 h, .int .i64 (ln : Int), .int .i64 v, .int .i64 u, .int .i64 x, .int .i64 t, .int .i64 n, .slice E.a E.n E.c, .slice (some x0) ln Lc, .slice N.a N.n N.c, .slice O.a O.n O.c]) (qv : Blk 26 w vb #[nilS]) (hv : wM.heap.size ≤ vb) (hmv : mb ≠ vb) (hla : L.a = some x0) (hln : m.ln = ln) (hun : ∀ i, i < ln → m.un i = ne ∧ m.dn i = ne)
    (lens : ∀ k, k < 1 + ln * pl ne + 2 → (seqOf m ne k).length = planC ln ne D DD XD UD VD k) (few : offs (planC ln ne D DD XD UD VD) (1 + ln * pl ne + 2) ≤ 100000) :
    Calls Try.prog 32 #[.pointer (some ⟨mb, 0, none⟩), .func (.func 45) #[] #[.pointer (some ⟨vb, 0, none⟩)]] w fun e w' =>
      e = .returned (.tuple #[]) ∧ Gathered vb (w.heap.size + 1) (seqOf m ne) (1 + ln * pl ne + 2) w' ∧ Only vb w w' := by
  obtain ⟨W0, eW⟩ : ∃ W0, w.alloc (.cells #[.int .i64 (D : Int), .int .i64 h, .int .i64 (ln : Int), .int .i64 v, .int .i64 u, .int .i64 x, .int .i64 t, .int .i64 n] 23) = W0 := ⟨_, rfl⟩
  have bw : Below w.heap.size w W0 := eW ▸ below_new (Below.refl _ w) _
  have qc : Blk 23 W0 w.heap.size #[.int .i64 (D : Int), .int .i64 h, .int .i64 (ln : Int), .int .i64 v, .int .i64 u, .int .i64 x, .int .i64 t, .int .i64 n] := eW ▸ Blk.new 23 w _
  have hvb : vb < w.heap.size := qv.lt
  have hmb : mb < w.heap.size := qm.lt
  obtain ⟨cnt, ec⟩ : ∃ c, planC ln ne D DD XD UD VD = c := ⟨_, rfl⟩
  obtain ⟨T, eT⟩ : ∃ T, 1 + ln * pl ne + 2 = T := ⟨_, rfl⟩
  have md : ∀ W, Only vb W0 W → ModAt W E L N O Y U Dn m := fun W o => hM.carry fun p y hp => by
    have lt := World.block_lt_of_cell? _ _ hp
    refine o.cell ((bw.cell ?_).trans ((hbM.cell lt).trans hp)) (fun e => by simp at e; omega)
    have := hbM.size
    omega
  have uas : ∀ i, i < ln → ∃ a, (Y i 7).a = some a := fun i hi => (hM.lay i (by rw [hln]; exact hi)).u.some_ (by rw [(hun i hi).1]; exact hne)
  have das : ∀ i, i < ln → ∃ a, (Y i 8).a = some a := fun i hi => (hM.lay i (by rw [hln]; exact hi)).d.some_ (by rw [(hun i hi).2]; exact hne)
  obtain ⟨UA, hUA⟩ := Go.Deep.choose_lt uas
  obtain ⟨DA, hDA⟩ := Go.Deep.choose_lt das
  have cl : ∀ W, Only vb W0 W → ∀ i, i < ln → ∀ j, j < 9 → W.cell? ((x0.add (i * 9)).add j) = some (Y i j).v := fun W o i hi j hj => (md W o).cell x0 hla i (by rw [hln]; exact hi) j hj
  have cm : ∀ W, Only vb W0 W → ∀ o' y, (#[.int .i64 (D : Int), .int .i64 h, .int .i64 (ln : Int), .int .i64 v, .int .i64 u, .int .i64 x, .int .i64 t, .int .i64 n, .slice E.a E.n E.c, .slice (some x0) ln Lc, .slice N.a N.n N.c, .slice O.a O.n O.c] : Array Value)[o']? = some y → W.cell? ⟨mb, o', none⟩ = some y := fun W o o' y hy => o.cell ((qm.kept bw).cell o' hy) (fun e => hmv (by simpa using e))
  have hold : ∀ W, Only vb W0 W → Held mb w.heap.size ln Lc ne x0 UA DA (fun i => (Y i 7).c) (fun i => (Y i 8).c) (D : Int) v u x W := fun W o => by
    obtain ⟨c0, c1, c2, c3, c4, c5, c6, c7⟩ := (qc.other' o (by omega)).cfg
    refine ⟨cm W o 9 _ rfl, c0, c3, c4, c5, fun i hi => ?_, fun i hi => ?_⟩
    · have := cl W o i hi 7 (by omega)
      have g := (hM.lay i (by rw [hln]; exact hi)).u.len
      rw [(hun i hi).1] at g
      rw [SL.v, hUA i hi, g] at this
      exact this
    · have := cl W o i hi 8 (by omega)
      have g := (hM.lay i (by rw [hln]; exact hi)).d.len
      rw [(hun i hi).2] at g
      rw [SL.v, hDA i hi, g] at this
      exact this
  have emb : ∀ W, Only vb W0 W → IsS W E m.e := fun W o => (md W o).e
  have nor : ∀ W, Only vb W0 W → IsS W N m.nm := fun W o => (md W o).nm
  have outw : ∀ W, Only vb W0 W → IsS W O m.o := fun W o => (md W o).o
  have cu : ∀ W, Only vb W0 W → ∀ i, i < ln → ∀ j, j < ne → W.cell? ((UA i).add j) = some (U i j).v := fun W o i hi j hj => ((md W o).lay i (by rw [hln]; exact hi)).u.cell _ (hUA i hi) j (by rw [(hun i hi).1]; exact hj)
  have cd : ∀ W, Only vb W0 W → ∀ i, i < ln → ∀ j, j < ne → W.cell? ((DA i).add j) = some (Dn i j).v := fun W o i hi j hj => ((md W o).lay i (by rw [hln]; exact hi)).d.cell _ (hDA i hi) j (by rw [(hun i hi).2]; exact hj)
  have ru : ∀ W, Only vb W0 W → ∀ i, i < ln → ∀ j, j < ne → IsS W (U i j) (m.u i j) := fun W o i hi j hj => ((md W o).lay i (by rw [hln]; exact hi)).u.row j (by rw [(hun i hi).1]; exact hj)
  have rdn : ∀ W, Only vb W0 W → ∀ i, i < ln → ∀ j, j < ne → IsS W (Dn i j) (m.d i j) := fun W o i hi j hj => ((md W o).lay i (by rw [hln]; exact hi)).d.row j (by rw [(hun i hi).2]; exact hj)
  have le : ∀ i, i < ln → 1 + i * pl ne + pl ne ≤ 1 + ln * pl ne := fun i hi => by
    have := Nat.mul_le_mul_right (pl ne) (show i + 1 ≤ ln by omega)
    rw [Nat.add_mul, Nat.one_mul] at this
    omega
  have p7 : pl ne = 7 + 2 * ne := rfl
  have lst : ∀ i, i < ln → ∀ r, r < 7 → cnt (1 + i * pl ne + r) = preC D DD XD r ∧ 1 + i * pl ne + r < T := fun i hi r hr => by
    have := le i hi
    rw [← ec]
    exact ⟨planC_list i r hi hr, by omega⟩
  have sW : W0.heap.size = w.heap.size + 1 := by rw [← eW]; simp
  have st : ∀ (W : World), Only vb W0 W → ∀ k, k < T → ∀ (a : Addr) (c : Nat) (sl : SL) {zs : List Int}, W.cell? a = some sl.v → seqOf m ne k = zs → cnt k = c → IsS W sl zs → a.block < w.heap.size ∧ a.block ≠ vb → Gathered vb (w.heap.size + 1) (seqOf m ne) k W →
      Calls Try.prog 45 #[.pointer (some a), .int .i64 (c : Int), .pointer (some ⟨vb, 0, none⟩)] W.drew fun e W' => e = .returned (.tuple #[]) ∧ Gathered vb (w.heap.size + 1) (seqOf m ne) (k + 1) W' ∧ Only vb W0 W' := fun W o k hk a c sl zs ha hz hc hs hbl hg => by
    obtain ⟨va, vc, q, own⟩ := hg
    have sz : w.heap.size + 1 ≤ W.heap.size := by have := o.size; omega
    have fl := flat_len (seqOf m ne) cnt T (by rw [← eT, ← ec]; exact lens) k (by omega)
    have fk : (seqOf m ne k).length = cnt k := by rw [← ec]; exact lens k (by omega)
    have mo := offs_mono cnt (show k + 1 ≤ T by omega)
    have mo' : offs cnt T ≤ 100000 := by rw [← eT, ← ec]; exact few
    have mo2 : offs cnt (k + 1) = offs cnt k + cnt k := rfl
    have hl : sl.n = (seqOf m ne k).length := by rw [hz]; exact hs.reads.len.symm
    refine (closure45 a vb (w.heap.size + 1) (flatTo (seqOf m ne) k).length va vc ((flatTo (seqOf m ne) k).map (Value.int .i8)) sl.a sl.n sl.c zs (c : Int) W.drew q own.drew ha (hs.reads.drewN 1) hs.nil (by omega) (by omega) hbl.2 sz (by omega)).mono ?_
    rintro e W' ⟨he, va', vc', q', own', fin⟩
    have e3 : (flatTo (seqOf m ne) (k + 1)).length = (flatTo (seqOf m ne) k).length + sl.n := by rw [flat_succ, List.length_append, hl]
    refine ⟨he, ⟨va', vc', ?_, ?_⟩, fin W0 sW (o.drewN 1)⟩
    · rw [e3]; exact q'
    · rw [e3, flat_succ, List.map_append, hz]; exact own'
  have start : Gathered vb (w.heap.size + 1) (seqOf m ne) 0 W0 := ⟨none, 0, qv.kept bw, World.ownsRow_nil _ _ _ _⟩
  have bx : x0.block < w.heap.size ∧ x0.block ≠ vb := by
    have g := hM.cell x0 hla 0 (by omega) 0 (by omega)
    have lt := World.block_lt_of_cell? _ _ g
    have e : ((x0.add (0 * 9)).add 0).block = x0.block := by simp [Addr.add]
    rw [e] at lt
    have := hbM.size
    omega
  have b9 : ∀ i j, ((x0.add (i * 9)).add j).block < w.heap.size ∧ ((x0.add (i * 9)).add j).block ≠ vb := fun i j => by
    have e : ((x0.add (i * 9)).add j).block = x0.block := by rw [blk_add, blk_add]
    rw [e]; exact bx
  have bu : ∀ i, i < ln → ∀ j, j < ne → ((UA i).add j).block < w.heap.size ∧ ((UA i).add j).block ≠ vb := fun i hi j hj => by
    have g := (hM.lay i (by rw [hln]; exact hi)).u.cell _ (hUA i hi) j (by rw [(hun i hi).1]; exact hj)
    have lt := World.block_lt_of_cell? _ _ g
    have := hbM.size
    omega
  have bd : ∀ i, i < ln → ∀ j, j < ne → ((DA i).add j).block < w.heap.size ∧ ((DA i).add j).block ≠ vb := fun i hi j hj => by
    have g := (hM.lay i (by rw [hln]; exact hi)).d.cell _ (hDA i hi) j (by rw [(hun i hi).2]; exact hj)
    have lt := World.block_lt_of_cell? _ _ g
    have := hbM.size
    omega
  have := visit_45 (D : Int) h (ln : Int) v u x t n w mb vb ln Lc ne x0 UA DA (fun i => (Y i 7).c) (fun i => (Y i 8).c) (VD : Int) (DD : Int) (XD : Int) (UD : Int) e1 e2 e3 e4 (by rw [Int.mul_comm]; exact e4)
    (wrap_small (by omega)) (wrap_small (by omega)) (wrap_small (by omega)) (wrap_small (by omega)) (by omega) (by omega) (fun W => Only vb W0 W) (fun W hW => hold W hW)
    (fun W => Gathered vb (w.heap.size + 1) (seqOf m ne) (0) W) (fun W => Gathered vb (w.heap.size + 1) (seqOf m ne) (1 + ln * pl ne + 1) W) (fun W => Gathered vb (w.heap.size + 1) (seqOf m ne) (T) W) (fun i j W => Gathered vb (w.heap.size + 1) (seqOf m ne) (1 + i * pl ne + j) W) (fun i j W => Gathered vb (w.heap.size + 1) (seqOf m ne) (1 + i * pl ne + 7 + 2 * j) W) (fun i j W => Gathered vb (w.heap.size + 1) (seqOf m ne) (1 + i * pl ne + 7 + 2 * j + 1) W)
    ⟨qm.cell 0 rfl, qm.cell 1 rfl, qm.cell 2 rfl, qm.cell 3 rfl, qm.cell 4 rfl, qm.cell 5 rfl, qm.cell 6 rfl, qm.cell 7 rfl⟩ (eW ▸ start) (eW ▸ Only.refl _ _)
    (fun W hs hr => by
      have := st W hr 0 (by omega) ⟨mb, 8, none⟩ VD E (cm W hr 8 _ rfl) rfl (by rw [← ec]; rfl) (emb W hr) ⟨hmb, hmv⟩ hs
      rwa [show 0 + 1 = 1 + 0 * pl ne + 0 by omega] at this)
    (fun i hi W hs hr => st W hr _ (lst i hi 0 (by omega)).2 _ _ (Y i 0) (cl W hr i hi 0 (by omega)) (seqOf_list m ne i 0 (by rw [hln]; exact hi) (by omega)) (lst i hi 0 (by omega)).1 ((md W hr).lay i (by rw [hln]; exact hi) |>.f 0 (by omega)) (b9 i 0) hs)
    (fun i hi W hs hr => st W hr _ (lst i hi 1 (by omega)).2 _ _ (Y i 1) (cl W hr i hi 1 (by omega)) (seqOf_list m ne i 1 (by rw [hln]; exact hi) (by omega)) (lst i hi 1 (by omega)).1 ((md W hr).lay i (by rw [hln]; exact hi) |>.f 1 (by omega)) (b9 i 1) hs)
    (fun i hi W hs hr => st W hr _ (lst i hi 2 (by omega)).2 _ _ (Y i 2) (cl W hr i hi 2 (by omega)) (seqOf_list m ne i 2 (by rw [hln]; exact hi) (by omega)) (lst i hi 2 (by omega)).1 ((md W hr).lay i (by rw [hln]; exact hi) |>.f 2 (by omega)) (b9 i 2) hs)
    (fun i hi W hs hr => st W hr _ (lst i hi 3 (by omega)).2 _ _ (Y i 3) (cl W hr i hi 3 (by omega)) (seqOf_list m ne i 3 (by rw [hln]; exact hi) (by omega)) (lst i hi 3 (by omega)).1 ((md W hr).lay i (by rw [hln]; exact hi) |>.f 3 (by omega)) (b9 i 3) hs)
    (fun i hi W hs hr => st W hr _ (lst i hi 4 (by omega)).2 _ _ (Y i 4) (cl W hr i hi 4 (by omega)) (seqOf_list m ne i 4 (by rw [hln]; exact hi) (by omega)) (lst i hi 4 (by omega)).1 ((md W hr).lay i (by rw [hln]; exact hi) |>.f 4 (by omega)) (b9 i 4) hs)
    (fun i hi W hs hr => st W hr _ (lst i hi 5 (by omega)).2 _ _ (Y i 5) (cl W hr i hi 5 (by omega)) (seqOf_list m ne i 5 (by rw [hln]; exact hi) (by omega)) (lst i hi 5 (by omega)).1 ((md W hr).lay i (by rw [hln]; exact hi) |>.f 5 (by omega)) (b9 i 5) hs)
    (fun i hi W hs hr => st W hr _ (lst i hi 6 (by omega)).2 _ _ (Y i 6) (cl W hr i hi 6 (by omega)) (seqOf_list m ne i 6 (by rw [hln]; exact hi) (by omega)) (lst i hi 6 (by omega)).1 ((md W hr).lay i (by rw [hln]; exact hi) |>.f 6 (by omega)) (b9 i 6) hs)
    (fun i hi j hj W hs hr => st W hr _ (by have := le i hi; omega) _ UD (U i j) (cu W hr i hi j hj) (seqOf_up m ne i j (by rw [hln]; exact hi) hj) (by rw [← ec]; exact planC_up i j hi hj) (ru W hr i hi j hj) (bu i hi j hj) hs)
    (fun i hi j hj W hs hr => by
      have := st W hr _ (by have := le i hi; omega) ((DA i).add j) UD (Dn i j) (cd W hr i hi j hj) (seqOf_down m ne i j (by rw [hln]; exact hi) hj) (by rw [← ec]; exact planC_down i j hi hj) (rdn W hr i hi j hj) (bd i hi j hj) hs
      simpa [Nat.mul_add, Nat.add_assoc] using this)
    (fun i hi W hs => by
      have e : 1 + (i + 1) * pl ne + 0 = 1 + i * pl ne + 7 + 2 * ne := by rw [Nat.add_mul, Nat.one_mul]; omega
      show Gathered vb (w.heap.size + 1) (seqOf m ne) (1 + (i + 1) * pl ne + 0) W
      rw [e]
      exact hs)
    (fun W hs hr => st W hr _ (by omega) ⟨mb, 10, none⟩ D N (cm W hr 10 _ rfl) (by have := seqOf_norm m ne; rwa [hln] at this) (by rw [← ec]; exact planC_norm) (nor W hr) ⟨hmb, hmv⟩ hs)
    (fun W hs hr => by
      have := st W hr _ (by omega) ⟨mb, 11, none⟩ VD O (cm W hr 11 _ rfl) (by have := seqOf_out m ne; rwa [hln] at this) (by rw [← ec]; exact planC_out) (outw W hr) ⟨hmb, hmv⟩ hs
      rwa [show 1 + ln * pl ne + 1 + 1 = T by omega] at this)
  rw [eT]
  exact this.mono fun e w' hh => ⟨hh.1, hh.2.1, (Only.of_below bw).trans hh.2.2⟩

set_option maxHeartbeats 1000000 in
theorem flat_no (d h l v u x t n : Int) (E N O : SL) (La : Option Addr) (ml Lc : Nat) (Z : Int) (hZ : (Z == 0) = false) (w : World)
    (k16 : ∀ W, Below w.heap.size w W → Calls Try.prog 16 #[.agg #[.int .i64 d, .int .i64 h, .int .i64 l, .int .i64 v, .int .i64 u, .int .i64 x, .int .i64 t, .int .i64 n, .slice E.a E.n E.c, .slice La ml Lc, .slice N.a N.n N.c, .slice O.a O.n O.c]] W fun e w' => e = .returned (.int .i64 Z) ∧ Below W.heap.size W w') :
    Calls Try.prog 19 #[.agg #[.int .i64 d, .int .i64 h, .int .i64 l, .int .i64 v, .int .i64 u, .int .i64 x, .int .i64 t, .int .i64 n, .slice E.a E.n E.c, .slice La ml Lc, .slice N.a N.n N.c, .slice O.a O.n O.c]] w fun e w' => e = .returned nilS ∧ Below w.heap.size w w' := by
  have hb := below_new (Below.refl w.heap.size w) (.cells #[.int .i64 d, .int .i64 h, .int .i64 l, .int .i64 v, .int .i64 u, .int .i64 x, .int .i64 t, .int .i64 n, .slice E.a E.n E.c, .slice La ml Lc, .slice N.a N.n N.c, .slice O.a O.n O.c] 29)
  go_enter Try.func19, Try.ntmps19
  go_wp2_with (first | (go_at_call 16; refine (k16 _ hb).mono ?_; rintro e W1 ⟨rfl, h1⟩; replace hb := below_then hb h1; clear h1))
  go_ret
  exact ⟨rfl, hb⟩

set_option maxHeartbeats 1000000 in
theorem flat_yes (d h l v u x t n : Int) (E N O : SL) (La : Option Addr) (ml Lc T : Nat) (S : Nat → List Int) (w : World) (hfew : (flatTo S T).length ≤ 1000000) (hwf : ∀ z ∈ flatTo S T, (Lit.int .i8 z).wf = true)
    (k16 : ∀ W, Below w.heap.size w W → Calls Try.prog 16 #[.agg #[.int .i64 d, .int .i64 h, .int .i64 l, .int .i64 v, .int .i64 u, .int .i64 x, .int .i64 t, .int .i64 n, .slice E.a E.n E.c, .slice La ml Lc, .slice N.a N.n N.c, .slice O.a O.n O.c]] W fun e w' => e = .returned (.int .i64 0) ∧ Below W.heap.size W w')
    (k32 : ∀ W2 : World, Below w.heap.size w W2 → Blk 29 W2 w.heap.size #[.int .i64 d, .int .i64 h, .int .i64 l, .int .i64 v, .int .i64 u, .int .i64 x, .int .i64 t, .int .i64 n, .slice E.a E.n E.c, .slice La ml Lc, .slice N.a N.n N.c, .slice O.a O.n O.c] → w.heap.size < W2.heap.size →
      Calls Try.prog 32 #[.pointer (some ⟨w.heap.size, 0, none⟩), .func (.func 45) #[] #[.pointer (some ⟨W2.heap.size, 0, none⟩)]] (W2.alloc (.cells #[nilS] 26)) fun e w' => e = .returned (.tuple #[]) ∧ Gathered W2.heap.size (W2.heap.size + 2) S T w' ∧ Only W2.heap.size (W2.alloc (.cells #[nilS] 26)) w') :
    Calls Try.prog 19 #[.agg #[.int .i64 d, .int .i64 h, .int .i64 l, .int .i64 v, .int .i64 u, .int .i64 x, .int .i64 t, .int .i64 n, .slice E.a E.n E.c, .slice La ml Lc, .slice N.a N.n N.c, .slice O.a O.n O.c]] w fun e w' => ∃ s : SL, e = .returned (.slice s.a s.n s.c) ∧ IsS w' s (flatTo S T) ∧ Below w.heap.size w w' := by
  have hb := below_new (Below.refl w.heap.size w) (.cells #[.int .i64 d, .int .i64 h, .int .i64 l, .int .i64 v, .int .i64 u, .int .i64 x, .int .i64 t, .int .i64 n, .slice E.a E.n E.c, .slice La ml Lc, .slice N.a N.n N.c, .slice O.a O.n O.c] 29)
  have q0 := Blk.new 29 w #[.int .i64 d, .int .i64 h, .int .i64 l, .int .i64 v, .int .i64 u, .int .i64 x, .int .i64 t, .int .i64 n, .slice E.a E.n E.c, .slice La ml Lc, .slice N.a N.n N.c, .slice O.a O.n O.c]
  have HQ := hidden_ q0
  clear q0
  go_enter Try.func19, Try.ntmps19
  go_wp2_with (first
    | (go_at_call 16; refine (k16 _ hb).mono ?_; rintro e W1 ⟨rfl, h1⟩; replace hb := below_then hb h1; have q1 := HQ.out.kept h1; clear h1)
    | (go_at_call 32; refine (k32 _ hb q1 q1.lt).mono ?_; rintro e W3 ⟨rfl, ⟨va, vc, q3, own⟩, o3⟩; have c3 := q3.cell 0 rfl))
  go_ret
  have lt := q1.lt
  refine ⟨⟨va, (flatTo S T).length, vc⟩, rfl, ⟨?_, fun e => ?_, ?_⟩, Only.below (below_new hb _) (Nat.le_of_lt lt) (by simp; omega) o3⟩
  · exact own_reads_at own rfl hwf (fun j hj => copy_at .i8 _ j hj)
  · rcases own.2 with ⟨g, _⟩ | ⟨g, cap, cur, g', _⟩
    · simp only [Value.slice.injEq] at g
      exact g.2.2
    · simp only [Value.slice.injEq] at g'
      have e' : va = none := e
      rw [e'] at g'
      cases g'.1
  · show (flatTo S T).length ≤ vc
    rcases own.2 with ⟨_, g⟩ | ⟨g, cap, cur, g', _, _, hn, _⟩
    · omega
    · simp only [Value.slice.injEq] at g'
      omega

/-- the numbers of all lists are weights -/
theorem ModAt.wf {w : World} {E L N O : SL} {Y U D : Nat → Nat → SL} {m : ModV} {ne : Nat} (h : ModAt w E L N O Y U D m) (hu : ∀ i, i < m.ln → m.un i = ne ∧ m.dn i = ne) (k : Nat) (hk : k < 1 + m.ln * pl ne + 2) : ∀ z ∈ seqOf m ne k, (Lit.int .i8 z).wf = true := by
  rcases plan_cases m.ln ne k hk with rfl | ⟨i, r, hi, hr, rfl⟩ | ⟨i, j, hi, hj, rfl | rfl⟩ | rfl | rfl
  · exact h.e.reads.wf_mem
  · rw [seqOf_list m ne i r hi hr]; exact ((h.lay i hi).f r hr).reads.wf_mem
  · rw [seqOf_up m ne i j hi hj]; exact ((h.lay i hi).u.row j (by rw [(hu i hi).1]; exact hj)).reads.wf_mem
  · rw [seqOf_down m ne i j hi hj]; exact ((h.lay i hi).d.row j (by rw [(hu i hi).2]; exact hj)).reads.wf_mem
  · rw [seqOf_norm]; exact h.nm.reads.wf_mem
  · rw [seqOf_out]; exact h.o.reads.wf_mem

theorem lens_all (S : Nat → List Int) (cnt : Nat → Nat) (T : Nat) (h : lensZ S cnt T = 0) : ∀ k, k < T → (S k).length = cnt k := fun k hk => by
  by_cases e : (S k).length = cnt k
  · exact e
  · rw [lens_bad S cnt T k hk e] at h
    omega

/-- a model that Check lets through: framed, and each list as long as it should be -/
theorem checked {d h l v u x t n : Int} {m : ModV} (hz : checkB d h l v u x t n m = 0) : okB d h l v u x t n = true ∧ m.ln = l.toNat ∧ (∀ i, i < m.ln → m.un i = netsN x ∧ m.dn i = netsN x) ∧ ∀ k, k < allT l x → (seqOf m (netsN x) k).length = cntOf d l v u x k := by
  unfold checkB at hz
  cases ok : okB d h l v u x t n with
  | false => rw [ok] at hz; simp at hz
  | true =>
    rw [ok] at hz
    cases fr : framedB l x m with
    | false => rw [fr] at hz; simp at hz
    | true =>
      rw [fr] at hz
      simp only [if_true] at hz
      have dm := dims_of ok
      have fr' := of_decide_eq_true fr
      have dl := dm.el
      refine ⟨rfl, by omega, fun i hi => ?_, lens_all _ _ _ hz⟩
      have := fr'.2 i hi
      rw [dm.en] at this
      omega

/-- all weights of a model in order; of one that is not right: nothing -/
def flatV (x l : Int) (m : ModV) : List Int := flatTo (seqOf m (netsN x)) (allT l x)

theorem flat_length {d h l v u x t n : Int} {m : ModV} (hz : checkB d h l v u x t n m = 0) : (flatV x l m).length = offs (cntOf d l v u x) (allT l x) := by
  obtain ⟨_, _, _, lens⟩ := checked hz
  exact flat_len _ _ _ lens _ (Nat.le_refl _)

theorem flat_call (d h l v u x t n : Int) (E L N O : SL) (Y U D : Nat → Nat → SL) (m : ModV) (w : World) (hM : ModAt w E L N O Y U D m) :
    Calls Try.prog 19 #[.agg #[.int .i64 d, .int .i64 h, .int .i64 l, .int .i64 v, .int .i64 u, .int .i64 x, .int .i64 t, .int .i64 n, .slice E.a E.n E.c, .slice L.a L.n L.c, .slice N.a N.n N.c, .slice O.a O.n O.c]] w fun e w' => ∃ s : SL, e = .returned (.slice s.a s.n s.c) ∧ IsS w' s (if checkB d h l v u x t n m = 0 then flatV x l m else []) ∧ Below w.heap.size w w' := by
  have k16 := fun W hb => check_call d h l v u x t n E L N O Y U D m W (hM.below (w' := W) hb)
  by_cases hz : checkB d h l v u x t n m = 0
  · rw [if_pos hz]
    obtain ⟨ok, hln, hun, lens⟩ := checked hz
    have dm := dims_of ok
    have fl := flat_length hz
    simp only [hz] at k16
    have hT : 1 + m.ln * pl (netsN x) + 2 = allT l x := by rw [hln]; rfl
    refine flat_yes d h l v u x t n E N O L.a L.n L.c (allT l x) (seqOf m (netsN x)) w (by have := dm.sz1; unfold flatV at fl; omega) (fun z hz => ?_) k16 (fun W2 hb q hlt => ?_)
    · obtain ⟨k, hk, hz⟩ := List.mem_flatMap.1 hz
      exact hM.wf hun k (by rw [hT]; simpa using hk) z hz
    · obtain ⟨x0, hx0⟩ := hM.some_ (by have := dm.l0; omega)
      have b4 := below_new (Below.refl W2.heap.size W2) (.cells #[nilS] 26)
      have key := flat_visit h v u x t n l.toNat (netsN x) d.toNat (d * d).toNat (x * d).toNat (u * d).toNat (v * d).toNat w.heap.size W2.heap.size L.c x0 E L N O Y U D m (by rw [← dm.ed]; exact dm.e1) (by rw [← dm.ed]; exact dm.e2) (by rw [← dm.ed]; exact dm.e3) (by rw [← dm.ed]; exact dm.e4)
        (by have := dm.b0; omega) dm.b1 dm.b2 dm.b3 dm.b4 (by have := dm.l1; omega) dm.l0 dm.n1 dm.n0 (W2.alloc (.cells #[nilS] 26)) w hM (below_then hb b4) (by rw [hx0, hM.len, hln] at q; rw [← dm.ed, ← dm.el]; exact q.kept b4) (Blk.new 26 W2 _) (by omega) (by omega) hx0 hln
        (fun i hi => hun i (by omega)) lens (by have := dm.sz1; unfold cntOf allT at this; omega)
      rw [show (W2.alloc (.cells #[nilS] 26)).heap.size + 1 = W2.heap.size + 2 by simp] at key
      exact key
  · rw [if_neg hz]
    exact (flat_no d h l v u x t n E N O L.a L.n L.c _ (by simp [hz]) w k16).mono fun e w' hh => ⟨⟨none, 0, 0⟩, hh.1, IsS.none_ _, hh.2⟩

end Go.Proofs.Ytjbeloljbjfibaa
