/- Visiting a framed model whose lists are only read: Check's closure. -/
import Derived.Test.YtjbeloljbjfibaaRows
import Derived.Test.YtjbeloljbjfibaaLayer8
import Derived.Test.YtjbeloljbjfibaaConf
import Derived.Test.YtjbeloljbjfibaaBlank
import Derived.Test.YtjbeloljbjfibaaCfgRef
import Derived.Test.YtjbeloljbjfibaaSize
import Derived.Test.YtjbeloljbjfibaaSizes
import Derived.Test.YtjbeloljbjfibaaSteps
import Derived.Test.YtjbeloljbjfibaaClo54
import Derived.Test.YtjbeloljbjfibaaFill
import Derived.Test.YtjbeloljbjfibaaMods
import Derived.Test.YtjbeloljbjfibaaV44
import Derived.Test.YtjbeloljbjfibaaFills
import Derived.Test.YtjbeloljbjfibaaShape
import Derived.Test.YtjbeloljbjfibaaCheck
import Derived.WalkKit
import Derived.ProofKit
import Derived.OpenShut
import Derived.Below
import Derived.WalkLawsBesides
import Derived.Deep.QuietTactic
import Derived.BigQuiet
import Derived.Deep.RegionWith
import Derived.Deep.RegionHeld3
import Derived.Deep.OwnRows
namespace Go.Proofs.Ytjbeloljbjfibaa
open Go.ChangeShapes Go.WideShapes Go.ChangeAt Go.RowKit
set_option linter.unusedVariables false


theorem IsS.carry {w w' : World} {s : SL} {zs : List Int} (h : IsS w s zs) (hc : ∀ p v, w.cell? p = some v → w'.cell? p = some v) : IsS w' s zs := ⟨h.reads.carry hc, h.nil, h.cap⟩
theorem IsG.carry {w w' : World} {s : SL} {k : Nat} {R : Nat → SL} {Z : Nat → List Int} (h : IsG w s k R Z) (hc : ∀ p v, w.cell? p = some v → w'.cell? p = some v) : IsG w' s k R Z :=
  ⟨h.len, h.some_, h.nil, h.cap, fun x hx j hj => hc _ _ (h.cell x hx j hj), fun j hj => (h.row j hj).carry hc⟩
theorem ModAt.carry {w w' : World} {E L N O : SL} {Y U D : Nat → Nat → SL} {m : ModV} (h : ModAt w E L N O Y U D m) (hc : ∀ p v, w.cell? p = some v → w'.cell? p = some v) : ModAt w' E L N O Y U D m :=
  ⟨h.e.carry hc, h.nm.carry hc, h.o.carry hc, h.len, h.some_, h.nil, h.cap, fun x hx i hi j hj => hc _ _ (h.cell x hx i hi j hj), fun i hi => ⟨fun j hj => ((h.lay i hi).f j hj).carry hc, (h.lay i hi).u.carry hc, (h.lay i hi).d.carry hc⟩⟩

/-- the lists of a model in the weights' order -/
def seqOf (m : ModV) (ne k : Nat) : List Int :=
  if k = 0 then m.e else if (k - 1) / pl ne < m.ln then (if (k - 1) % pl ne < 7 then m.f ((k - 1) / pl ne) ((k - 1) % pl ne) else if ((k - 1) % pl ne - 7) % 2 = 0 then m.u ((k - 1) / pl ne) (((k - 1) % pl ne - 7) / 2) else m.d ((k - 1) / pl ne) (((k - 1) % pl ne - 7) / 2))
  else if (k - 1) % pl ne = 0 then m.nm else m.o

theorem seqOf_list (m : ModV) (ne i r : Nat) (hi : i < m.ln) (hr : r < 7) : seqOf m ne (1 + i * pl ne + r) = m.f i r := by
  obtain ⟨e1, e2⟩ := pl_div ne i r (by unfold pl; omega)
  unfold seqOf
  rw [e1, e2, if_neg (by omega), if_pos hi, if_pos hr]
theorem seqOf_up (m : ModV) (ne i j : Nat) (hi : i < m.ln) (hj : j < ne) : seqOf m ne (1 + i * pl ne + 7 + 2 * j) = m.u i j := by
  obtain ⟨e1, e2⟩ := pl_div ne i (7 + 2 * j) (by unfold pl; omega)
  rw [← Nat.add_assoc] at e1 e2
  unfold seqOf
  rw [e1, e2, if_neg (by omega), if_pos hi, if_neg (by omega), if_pos (by omega), show (7 + 2 * j - 7) / 2 = j by omega]
theorem seqOf_down (m : ModV) (ne i j : Nat) (hi : i < m.ln) (hj : j < ne) : seqOf m ne (1 + i * pl ne + 7 + 2 * j + 1) = m.d i j := by
  obtain ⟨e1, e2⟩ := pl_div ne i (7 + 2 * j + 1) (by unfold pl; omega)
  rw [← Nat.add_assoc, ← Nat.add_assoc] at e1 e2
  unfold seqOf
  rw [e1, e2, if_neg (by omega), if_pos hi, if_neg (by omega), if_neg (by omega), show (7 + 2 * j + 1 - 7) / 2 = j by omega]
theorem seqOf_norm (m : ModV) (ne : Nat) : seqOf m ne (1 + m.ln * pl ne) = m.nm := by
  obtain ⟨e1, e2⟩ := pl_div ne m.ln 0 (by unfold pl; omega)
  rw [Nat.add_zero] at e1 e2
  unfold seqOf
  rw [e1, e2, if_neg (by omega), if_neg (by omega), if_pos rfl]
theorem seqOf_out (m : ModV) (ne : Nat) : seqOf m ne (1 + m.ln * pl ne + 1) = m.o := by
  obtain ⟨e1, e2⟩ := pl_div ne m.ln 1 (by unfold pl; omega)
  unfold seqOf
  rw [e1, e2, if_neg (by omega), if_neg (by omega), if_neg (by omega)]

/-- what Check says of the first k lists -/
def lensZ (S : Nat → List Int) (cnt : Nat → Nat) : Nat → Int
  | 0 => 0
  | k + 1 => if ((S k).length : Int) = (cnt k : Int) then lensZ S cnt k else 21

theorem lens_ok (S : Nat → List Int) (cnt : Nat → Nat) (T : Nat) (h : ∀ k, k < T → (S k).length = cnt k) : lensZ S cnt T = 0 := by
  induction T with
  | zero => rfl
  | succ T ih =>
    show (if _ then _ else _) = _
    rw [if_pos (by rw [h T (by omega)]), ih fun k hk => h k (by omega)]

theorem lens_bad (S : Nat → List Int) (cnt : Nat → Nat) (T k : Nat) (hk : k < T) (h : (S k).length ≠ cnt k) : lensZ S cnt T = 21 := by
  induction T with
  | zero => omega
  | succ T ih =>
    show (if _ then _ else _) = _
    by_cases e : k = T
    · subst e
      rw [if_neg (by omega)]
    · rw [ih (by omega)]
      split <;> rfl

theorem Blk.other' {t : TypeId} {w w' : World} {b q : Nat} {cs : Array Value} (h : Blk t w b cs) (o : Only q w w') (ne : b ≠ q) : Blk t w' b cs := (o.block b h.lt (fun e => ne (Option.some.inj e))).trans h

theorem check_visit (h v u x t n : Int) (ln ne D DD XD UD VD mb vb Lc : Nat) (x0 : Addr) (E L N O : SL) (Y U Dn : Nat → Nat → SL) (m : ModV) (e1 : v * (D : Int) = (VD : Int)) (e2 : (D : Int) * (D : Int) = (DD : Int)) (e3 : x * (D : Int) = (XD : Int)) (e4 : u * (D : Int) = (UD : Int))
    (b0 : D ≤ 1000) (b1 : VD ≤ 1000) (b2 : DD ≤ 1000) (b3 : XD ≤ 1000) (b4 : UD ≤ 1000) (l1 : ln ≤ 4) (l2 : ne ≤ 4) (hne : 0 < ne) (w wM : World) (hM : ModAt wM E L N O Y U Dn m) (hbM : Below wM.heap.size wM w)
    (qm : Blk 29 w mb #[.int .i64 (D : Int), .int .i64 h, .int .i64 (ln : Int), .int .i64 v, .int .i64 u, .int .i64 x, .int .i64 t, .int .i64 n, .slice E.a E.n E.c, .slice (some x0) ln Lc, .slice N.a N.n N.c, .slice O.a O.n O.c]) (qv : Blk 31 w vb #[.int .i64 0]) (hv : wM.heap.size ≤ vb) (hmv : mb ≠ vb) (hla : L.a = some x0) (hln : m.ln = ln) (hun : ∀ i, i < ln → m.un i = ne ∧ m.dn i = ne) :
    Calls Try.prog 32 #[.pointer (some ⟨mb, 0, none⟩), .func (.func 44) #[] #[.pointer (some ⟨vb, 0, none⟩)]] w fun e w' =>
      e = .returned (.tuple #[]) ∧ Blk 31 w' vb #[.int .i64 (lensZ (seqOf m ne) (planC ln ne D DD XD UD VD) (1 + ln * pl ne + 2))] ∧ Only vb w w' := by
  obtain ⟨W0, eW⟩ : ∃ W0, w.alloc (.cells #[.int .i64 (D : Int), .int .i64 h, .int .i64 (ln : Int), .int .i64 v, .int .i64 u, .int .i64 x, .int .i64 t, .int .i64 n] 23) = W0 := ⟨_, rfl⟩
  have bw : Below w.heap.size w W0 := eW ▸ below_new (Below.refl _ w) _
  have qc : Blk 23 W0 w.heap.size #[.int .i64 (D : Int), .int .i64 h, .int .i64 (ln : Int), .int .i64 v, .int .i64 u, .int .i64 x, .int .i64 t, .int .i64 n] := eW ▸ Blk.new 23 w _
  have hvb : vb < w.heap.size := qv.lt
  have hmb : mb < w.heap.size := qm.lt
  obtain ⟨cnt, ec⟩ : ∃ c, planC ln ne D DD XD UD VD = c := ⟨_, rfl⟩
  obtain ⟨T, eT⟩ : ∃ T, 1 + ln * pl ne + 2 = T := ⟨_, rfl⟩
  have md : ∀ W, Only vb W0 W → ModAt W E L N O Y U Dn m := fun W o => hM.carry fun p y hp => by
    have lt := World.block_lt_of_cell? _ _ hp
    refine o.cell ((bw.cell ?_).trans ((hbM.cell lt).trans hp)) (fun e => by simp at e; omega)
    have := hbM.size
    omega
  have uas : ∀ i, i < ln → ∃ a, (Y i 7).a = some a := fun i hi => (hM.lay i (by rw [hln]; exact hi)).u.some_ (by rw [(hun i hi).1]; exact hne)
  have das : ∀ i, i < ln → ∃ a, (Y i 8).a = some a := fun i hi => (hM.lay i (by rw [hln]; exact hi)).d.some_ (by rw [(hun i hi).2]; exact hne)
  obtain ⟨UA, hUA⟩ := Go.Deep.choose_lt uas
  obtain ⟨DA, hDA⟩ := Go.Deep.choose_lt das
  have cl : ∀ W, Only vb W0 W → ∀ i, i < ln → ∀ j, j < 9 → W.cell? ((x0.add (i * 9)).add j) = some (Y i j).v := fun W o i hi j hj => (md W o).cell x0 hla i (by rw [hln]; exact hi) j hj
  have cm : ∀ W, Only vb W0 W → ∀ o' y, (#[.int .i64 (D : Int), .int .i64 h, .int .i64 (ln : Int), .int .i64 v, .int .i64 u, .int .i64 x, .int .i64 t, .int .i64 n, .slice E.a E.n E.c, .slice (some x0) ln Lc, .slice N.a N.n N.c, .slice O.a O.n O.c] : Array Value)[o']? = some y → W.cell? ⟨mb, o', none⟩ = some y := fun W o o' y hy => o.cell ((qm.kept bw).cell o' hy) (fun e => hmv (by simpa using e))
  have hold : ∀ W, Only vb W0 W → Held mb w.heap.size ln Lc ne x0 UA DA (fun i => (Y i 7).c) (fun i => (Y i 8).c) (D : Int) v u x W := fun W o => by
    obtain ⟨c0, c1, c2, c3, c4, c5, c6, c7⟩ := (qc.other' o (by omega)).cfg
    refine ⟨cm W o 9 _ rfl, c0, c3, c4, c5, fun i hi => ?_, fun i hi => ?_⟩
    · have := cl W o i hi 7 (by omega)
      have g := (hM.lay i (by rw [hln]; exact hi)).u.len
      rw [(hun i hi).1] at g
      rw [SL.v, hUA i hi, g] at this
      exact this
    · have := cl W o i hi 8 (by omega)
      have g := (hM.lay i (by rw [hln]; exact hi)).d.len
      rw [(hun i hi).2] at g
      rw [SL.v, hDA i hi, g] at this
      exact this
  have emb : ∀ W, Only vb W0 W → IsS W E m.e := fun W o => (md W o).e
  have nor : ∀ W, Only vb W0 W → IsS W N m.nm := fun W o => (md W o).nm
  have outw : ∀ W, Only vb W0 W → IsS W O m.o := fun W o => (md W o).o
  have cu : ∀ W, Only vb W0 W → ∀ i, i < ln → ∀ j, j < ne → W.cell? ((UA i).add j) = some (U i j).v := fun W o i hi j hj => ((md W o).lay i (by rw [hln]; exact hi)).u.cell _ (hUA i hi) j (by rw [(hun i hi).1]; exact hj)
  have cd : ∀ W, Only vb W0 W → ∀ i, i < ln → ∀ j, j < ne → W.cell? ((DA i).add j) = some (Dn i j).v := fun W o i hi j hj => ((md W o).lay i (by rw [hln]; exact hi)).d.cell _ (hDA i hi) j (by rw [(hun i hi).2]; exact hj)
  have ru : ∀ W, Only vb W0 W → ∀ i, i < ln → ∀ j, j < ne → IsS W (U i j) (m.u i j) := fun W o i hi j hj => ((md W o).lay i (by rw [hln]; exact hi)).u.row j (by rw [(hun i hi).1]; exact hj)
  have rdn : ∀ W, Only vb W0 W → ∀ i, i < ln → ∀ j, j < ne → IsS W (Dn i j) (m.d i j) := fun W o i hi j hj => ((md W o).lay i (by rw [hln]; exact hi)).d.row j (by rw [(hun i hi).2]; exact hj)
  have le : ∀ i, i < ln → 1 + i * pl ne + pl ne ≤ 1 + ln * pl ne := fun i hi => by
    have := Nat.mul_le_mul_right (pl ne) (show i + 1 ≤ ln by omega)
    rw [Nat.add_mul, Nat.one_mul] at this
    omega
  have p7 : pl ne = 7 + 2 * ne := rfl
  have lst : ∀ i, i < ln → ∀ r, r < 7 → cnt (1 + i * pl ne + r) = preC D DD XD r ∧ 1 + i * pl ne + r < T := fun i hi r hr => by
    have := le i hi
    rw [← ec]
    exact ⟨planC_list i r hi hr, by omega⟩
  have st : ∀ (W : World), Only vb W0 W → ∀ k, k < T → ∀ (a : Addr) (c : Nat) (sl : SL) {zs : List Int}, W.cell? a = some sl.v → seqOf m ne k = zs → cnt k = c → IsS W sl zs → Blk 31 W vb #[.int .i64 (lensZ (seqOf m ne) cnt k)] →
      Calls Try.prog 44 #[.pointer (some a), .int .i64 (c : Int), .pointer (some ⟨vb, 0, none⟩)] W.drew fun e W' => e = .returned (.tuple #[]) ∧ Blk 31 W' vb #[.int .i64 (lensZ (seqOf m ne) cnt (k + 1))] ∧ Only vb W0 W' := fun W o k hk a c sl zs ha hz hc hs hq => by
    refine (closure44 a vb sl.a sl.n sl.c (c : Int) _ W.drew ha hq).mono ?_
    rintro e W' ⟨he, q', o'⟩
    refine ⟨he, ?_, (o.drewN 1).trans o'⟩
    rw [← hs.reads.len, ← hz, ← hc] at q'
    exact q'
  have start : Blk 31 W0 vb #[.int .i64 (lensZ (seqOf m ne) cnt 0)] := qv.kept bw
  have := visit_44 (D : Int) h (ln : Int) v u x t n w mb vb ln Lc ne x0 UA DA (fun i => (Y i 7).c) (fun i => (Y i 8).c) (VD : Int) (DD : Int) (XD : Int) (UD : Int) e1 e2 e3 e4 (by rw [Int.mul_comm]; exact e4)
    (wrap_small (by omega)) (wrap_small (by omega)) (wrap_small (by omega)) (wrap_small (by omega)) (by omega) (by omega) (fun W => Only vb W0 W) (fun W hW => hold W hW)
    (fun W => Blk 31 W vb #[.int .i64 (lensZ (seqOf m ne) cnt (0))]) (fun W => Blk 31 W vb #[.int .i64 (lensZ (seqOf m ne) cnt (1 + ln * pl ne + 1))]) (fun W => Blk 31 W vb #[.int .i64 (lensZ (seqOf m ne) cnt (T))]) (fun i j W => Blk 31 W vb #[.int .i64 (lensZ (seqOf m ne) cnt (1 + i * pl ne + j))]) (fun i j W => Blk 31 W vb #[.int .i64 (lensZ (seqOf m ne) cnt (1 + i * pl ne + 7 + 2 * j))]) (fun i j W => Blk 31 W vb #[.int .i64 (lensZ (seqOf m ne) cnt (1 + i * pl ne + 7 + 2 * j + 1))])
    ⟨qm.cell 0 rfl, qm.cell 1 rfl, qm.cell 2 rfl, qm.cell 3 rfl, qm.cell 4 rfl, qm.cell 5 rfl, qm.cell 6 rfl, qm.cell 7 rfl⟩ (eW ▸ start) (eW ▸ Only.refl _ _)
    (fun W hs hr => by
      have := st W hr 0 (by omega) ⟨mb, 8, none⟩ VD E (cm W hr 8 _ rfl) rfl (by rw [← ec]; rfl) (emb W hr) hs
      rwa [show 0 + 1 = 1 + 0 * pl ne + 0 by omega] at this)
    (fun i hi W hs hr => st W hr _ (lst i hi 0 (by omega)).2 _ _ (Y i 0) (cl W hr i hi 0 (by omega)) (seqOf_list m ne i 0 (by rw [hln]; exact hi) (by omega)) (lst i hi 0 (by omega)).1 ((md W hr).lay i (by rw [hln]; exact hi) |>.f 0 (by omega)) hs)
    (fun i hi W hs hr => st W hr _ (lst i hi 1 (by omega)).2 _ _ (Y i 1) (cl W hr i hi 1 (by omega)) (seqOf_list m ne i 1 (by rw [hln]; exact hi) (by omega)) (lst i hi 1 (by omega)).1 ((md W hr).lay i (by rw [hln]; exact hi) |>.f 1 (by omega)) hs)
    (fun i hi W hs hr => st W hr _ (lst i hi 2 (by omega)).2 _ _ (Y i 2) (cl W hr i hi 2 (by omega)) (seqOf_list m ne i 2 (by rw [hln]; exact hi) (by omega)) (lst i hi 2 (by omega)).1 ((md W hr).lay i (by rw [hln]; exact hi) |>.f 2 (by omega)) hs)
    (fun i hi W hs hr => st W hr _ (lst i hi 3 (by omega)).2 _ _ (Y i 3) (cl W hr i hi 3 (by omega)) (seqOf_list m ne i 3 (by rw [hln]; exact hi) (by omega)) (lst i hi 3 (by omega)).1 ((md W hr).lay i (by rw [hln]; exact hi) |>.f 3 (by omega)) hs)
    (fun i hi W hs hr => st W hr _ (lst i hi 4 (by omega)).2 _ _ (Y i 4) (cl W hr i hi 4 (by omega)) (seqOf_list m ne i 4 (by rw [hln]; exact hi) (by omega)) (lst i hi 4 (by omega)).1 ((md W hr).lay i (by rw [hln]; exact hi) |>.f 4 (by omega)) hs)
    (fun i hi W hs hr => st W hr _ (lst i hi 5 (by omega)).2 _ _ (Y i 5) (cl W hr i hi 5 (by omega)) (seqOf_list m ne i 5 (by rw [hln]; exact hi) (by omega)) (lst i hi 5 (by omega)).1 ((md W hr).lay i (by rw [hln]; exact hi) |>.f 5 (by omega)) hs)
    (fun i hi W hs hr => st W hr _ (lst i hi 6 (by omega)).2 _ _ (Y i 6) (cl W hr i hi 6 (by omega)) (seqOf_list m ne i 6 (by rw [hln]; exact hi) (by omega)) (lst i hi 6 (by omega)).1 ((md W hr).lay i (by rw [hln]; exact hi) |>.f 6 (by omega)) hs)
    (fun i hi j hj W hs hr => st W hr _ (by have := le i hi; omega) _ UD (U i j) (cu W hr i hi j hj) (seqOf_up m ne i j (by rw [hln]; exact hi) hj) (by rw [← ec]; exact planC_up i j hi hj) (ru W hr i hi j hj) hs)
    (fun i hi j hj W hs hr => by
      have := st W hr _ (by have := le i hi; omega) ((DA i).add j) UD (Dn i j) (cd W hr i hi j hj) (seqOf_down m ne i j (by rw [hln]; exact hi) hj) (by rw [← ec]; exact planC_down i j hi hj) (rdn W hr i hi j hj) hs
      simpa [Nat.mul_add, Nat.add_assoc] using this)
    (fun i hi W hs => by
      have e : 1 + (i + 1) * pl ne + 0 = 1 + i * pl ne + 7 + 2 * ne := by rw [Nat.add_mul, Nat.one_mul]; omega
      show Blk 31 W vb #[.int .i64 (lensZ (seqOf m ne) cnt (1 + (i + 1) * pl ne + 0))]
      rw [e]
      exact hs)
    (fun W hs hr => st W hr _ (by omega) ⟨mb, 10, none⟩ D N (cm W hr 10 _ rfl) (by have := seqOf_norm m ne; rwa [hln] at this) (by rw [← ec]; exact planC_norm) (nor W hr) hs)
    (fun W hs hr => by
      have := st W hr _ (by omega) ⟨mb, 11, none⟩ VD O (cm W hr 11 _ rfl) (by have := seqOf_out m ne; rwa [hln] at this) (by rw [← ec]; exact planC_out) (outw W hr) hs
      rwa [show 1 + ln * pl ne + 1 + 1 = T by omega] at this)
  rw [ec, eT]
  exact this.mono fun e w' hh => ⟨hh.1, hh.2.1, (Only.of_below bw).trans hh.2.2⟩

end Go.Proofs.Ytjbeloljbjfibaa
