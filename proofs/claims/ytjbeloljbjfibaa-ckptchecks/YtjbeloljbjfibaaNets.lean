/- The document's Shape: a network's two lists put behind those of the layer, whatever order the regions draw. -/
import Derived.Test.YtjbeloljbjfibaaRows
import Derived.Test.YtjbeloljbjfibaaLayer8
import Derived.Test.YtjbeloljbjfibaaConf
import Derived.Test.YtjbeloljbjfibaaBlank
import Derived.Test.YtjbeloljbjfibaaCfgRef
import Derived.Test.YtjbeloljbjfibaaSize
import Derived.Test.YtjbeloljbjfibaaSizes
import Derived.Test.YtjbeloljbjfibaaSteps
import Derived.Test.YtjbeloljbjfibaaClo54
import Derived.Test.YtjbeloljbjfibaaFill
import Derived.Test.YtjbeloljbjfibaaMods
import Derived.Test.YtjbeloljbjfibaaFills
import Derived.Test.YtjbeloljbjfibaaShape
import Derived.Test.YtjbeloljbjfibaaShapes
import Derived.Test.YtjbeloljbjfibaaCheck
import Derived.Test.YtjbeloljbjfibaaChecks
import Derived.Test.YtjbeloljbjfibaaDims
import Derived.Test.YtjbeloljbjfibaaFlat
import Derived.Test.YtjbeloljbjfibaaNumbers
import Derived.Test.YtjbeloljbjfibaaPrefix
import Derived.Test.YtjbeloljbjfibaaBody
import Derived.Test.YtjbeloljbjfibaaDecode
import Derived.WalkKit
import Derived.ProofKit
import Derived.OpenShut
import Derived.Below
import Derived.WalkLawsBesides
import Derived.Deep.QuietTactic
import Derived.BigQuiet
import Derived.Deep.RegionWith
import Derived.Deep.RegionHeld3
import Derived.Deep.OwnRows
import Derived.Deep.Slices
import Derived.Test.YtjbeloljbjfibaaTrips
import Derived.Test.YtjbeloljbjfibaaCuts
import Derived.Test.YtjbeloljbjfibaaSeeds
import Derived.Test.YtjbeloljbjfibaaInv
import Derived.Test.YtjbeloljbjfibaaMore
import Derived.Test.YtjbeloljbjfibaaTypedC
import Derived.Test.YtjbeloljbjfibaaNexts
import Derived.Maps.AppendAt
import Derived.Test.YtjbeloljbjfibaaFirst
import Derived.Test.YtjbeloljbjfibaaFirst3
namespace Go.Proofs.Ytjbeloljbjfibaa
open Go.ChangeShapes Go.WideShapes Go.ChangeAt Go.RowKit
set_option linter.unusedVariables false

theorem run_cfg4 {w : World} {cb : Nat} {d h l v u x t n : Int} (q : Blk 23 w cb #[.int .i64 d, .int .i64 h, .int .i64 l, .int .i64 v, .int .i64 u, .int .i64 x, .int .i64 t, .int .i64 n]) : (Instr.fieldAt 23 (.pointer (some ⟨cb, 0, none⟩)) 4).run Try.prog w = .ok (.pointer (some ⟨cb, 4, none⟩)) w ∧ (Instr.loadAt 3 (.pointer (some ⟨cb, 4, none⟩))).run Try.prog w = .ok (.int .i64 u) w := by
  obtain ⟨c0, c1, c2, c3, c4, c5, c6, c7⟩ := q.cfg
  constructor
  · go_simp
  · go_simp
theorem run_load57 {w : World} {p : Addr} {a : Option Addr} {n c : Nat} (h : w.cell? p = some (.slice a n c)) : (Instr.loadAt 57 (.pointer (some p))).run Try.prog w = .ok (.slice a n c) w := by
  go_simp
theorem run_store57 {w : World} {p : Addr} {u : Value} {a : Option Addr} {n c : Nat} (h : w.cell? p = some u) (hf : w.frozen? p = false) : (Instr.storeAt 57 (.pointer (some p)) (.slice a n c)).run Try.prog w = .ok () (w.setCell p (.slice a n c)) := by
  go_simp
theorem run_build57 (w : World) (a : Option Addr) (n c : Nat) : (Instr.buildSlice 57 1 #[(0, .slice a n c)]).run Try.prog w = .ok (.slice (some ⟨w.heap.size, 0, none⟩) 1 1) (w.alloc (.cells #[.slice a n c] 26)) := by
  go_simp

/-- every block of rows of type t but one is as it was -/
def KeepsBut (t : TypeId) (r : Option Nat) (w w' : World) : Prop := ∀ (b : Nat) (cur : Array Value) (fz : Nat × Nat), some b ≠ r → w.heap[b]? = some (Obj.cells cur t fz) → w'.heap[b]? = some (Obj.cells cur t fz)
theorem KeepsBut.refl (t : TypeId) (r : Option Nat) (w : World) : KeepsBut t r w w := fun _ _ _ _ h => h
theorem KeepsBut.then_ {t : TypeId} {r : Option Nat} {w w' w'' : World} (h : KeepsBut t r w w') (k : Keeps t w' w'') : KeepsBut t r w w'' := fun b cur fz hb e => k b cur fz (h b cur fz hb e)
theorem KeepsBut.trans {t : TypeId} {r : Option Nat} {w w' w'' : World} (h : KeepsBut t r w w') (k : KeepsBut t r w' w'') : KeepsBut t r w w'' := fun b cur fz hb e => k b cur fz hb (h b cur fz hb e)
theorem KeepsBut.of_grown {t : TypeId} {r : Option Nat} {w w' : World} (h : w.grownBy w' r) : KeepsBut t r w w' := fun b cur fz hb e => (h.block b (Array.getElem?_eq_some_iff.1 e).1 hb).trans e
theorem KeepsBut.own {t : TypeId} {r : Option Nat} {w w' : World} {B n sz : Nat} {v : Value} {xs : List Value} (h : KeepsBut t r w w') (hv : ∀ g, v.ownBlock = some g → r ≠ some g) (ho : w.ownsRow B t sz v n xs) : w'.ownsRow B t sz v n xs := by
  refine ⟨ho.1, ?_⟩
  rcases ho.2 with h2 | ⟨g, cap, cur, e, hg, hh, r'⟩
  · exact .inl h2
  · exact .inr ⟨g, cap, cur, e, hg, h g cur (0, 0) (fun k => hv g (by rw [e]; rfl) k.symm) hh, r'⟩
theorem Only.grown {xb : Nat} {w0 w w' : World} {r : Option Nat} (h : Only xb w0 w) (k : w.grownBy w' r) (hr : ∀ g, r = some g → w0.heap.size ≤ g) : Only xb w0 w' :=
  ⟨k.os.trans h.os, k.tape.trans h.tape, k.output.trans h.output, Nat.le_trans h.size k.size, fun i hi hn => (k.block i (Nat.lt_of_lt_of_le hi h.size) (fun e => by have := hr i e.symm; omega)).trans (h.block i hi hn)⟩
theorem TG.slice {B : Nat} {w : World} {v : Value} {k : Nat} {R : Nat → SL} {Z : Nat → List Int} (h : TG B w v k R Z) : ∃ a n c, v = .slice a n c := by
  rcases h.own.2 with ⟨e, _⟩ | ⟨g, cap, cur, e, _⟩
  · exact ⟨_, _, _, e⟩
  · exact ⟨_, _, _, e⟩
theorem CutAt.grown {w w' : World} {xb sb N T : Nat} {ws : List Int} {r : Option Nat} (h : CutAt w xb sb N ws T) (o : w.grownBy w' r) (h1 : r ≠ some xb) (h2 : r ≠ some sb) : CutAt w' xb sb N ws T := by
  obtain ⟨y, c, q, e, rd, l⟩ := h
  refine ⟨y, c, (o.block xb q.lt (fun k => h1 k.symm)).trans q, e, ⟨rd.len, rd.max, rd.wf, rd.some_, fun x hx i hi => ?_⟩, l⟩
  have c := rd.cell x hx i hi
  have eb : (x.add i).block = x.block := by unfold Addr.add; split <;> rfl
  have hlt := World.block_lt_of_cell? _ _ c
  obtain rfl := Option.some.inj hx
  exact (World.cell?_of_block (o.block _ hlt (fun k => h2 (by rw [← k, eb, e])))).trans c

/-- where the row lies: where it lay, or in a new block -/
def OB (V : Value) (w0 : World) (v' : Value) : Prop := v'.ownBlock = V.ownBlock ∨ ∃ b, w0.heap.size ≤ b ∧ v'.ownBlock = some b

structure NetR (xb sb lb f N K k B : Nat) (ws : List Int) (cnt : Nat → Nat) (cs : Array Value) (V : Value) (R : Nat → SL) (Z : Nat → List Int) (WR w0 : World) (l : Nat → Bool) (w : World) : Prop where
  only : Only xb WR w
  cut : CutAt w xb sb N ws (offs cnt (if l 7 = true then K + 1 else K))
  tg : l 9 = false → TG B w V k R Z
  pre : l 11 = false → Blk 59 w lb cs
  post : l 11 = true → ∃ v' S, Blk 59 w lb (cs.setIfInBounds f v') ∧ TG B w v' (k + 1) (upd R k S) Z ∧ OB V w0 v'
  k46 : Keeps 46 w0 w
  k26 : KeepsBut 26 V.ownBlock w0 w
  d11 : l 11 = true → l 9 = true
  d9 : l 9 = true → l 1 = true
  size : w0.heap.size ≤ w.heap.size

theorem NetR.step {xb sb lb f N K k B : Nat} {ws : List Int} {cnt : Nat → Nat} {cs : Array Value} {V : Value} {R : Nat → SL} {Z : Nat → List Int} {WR w0 : World} {l l' : Nat → Bool} {w w' : World} (h : NetR xb sb lb f N K k B ws cnt cs V R Z WR w0 l w) (k46 : Keeps 46 w w') (k26 : Keeps 26 w w') (k59 : Keeps 59 w w') (o : Only xb w w')
    (hc : CutAt w' xb sb N ws (offs cnt (if l' 7 = true then K + 1 else K))) (e9 : l' 9 = l 9) (e11 : l' 11 = l 11) (e1 : l 1 = true → l' 1 = true) : NetR xb sb lb f N K k B ws cnt cs V R Z WR w0 l' w' :=
  ⟨h.only.trans o, hc, fun h9 => (h.tg (by rw [← e9]; exact h9)).step k46 k26, fun h11 => k59.blk (h.pre (by rw [← e11]; exact h11)), fun h11 => by
    obtain ⟨v', S, q1, q2, q3⟩ := h.post (by rw [← e11]; exact h11)
    exact ⟨v', S, k59.blk q1, q2.step k46 k26, q3⟩, h.k46.trans k46, h.k26.then_ k26, fun h11 => by rw [e9]; exact h.d11 (by rw [← e11]; exact h11), fun h9 => e1 (h.d9 (by rw [← e9]; exact h9)), Nat.le_trans h.size o.size⟩

def netD (b i : Nat) : Option Nat := if i < 11 then some (b + i) else none
theorem netD_inj (b : Nat) : ∀ i, i < 12 → ∀ j, j < 12 → ∀ d, netD b i = some d → netD b j = some d → i = j := by
  intro i hi j hj d h1 h2
  unfold netD at h1 h2
  split at h1
  · split at h2
    · simp at h1 h2; omega
    · cases h2
  · cases h1
theorem netD_low {b s : Nat} (h : s < b) (i : Nat) : netD b i ≠ some s := by
  intro e
  unfold netD at e
  split at e
  · simp at e; omega
  · cases e

def netFU (d u UD : Int) (xb cb lb f k B : Nat) (V : Value) (R : Nat → SL) (Z : Nat → List Int) (w0 : World) (i : Nat) (q : Value) (w : World) : Prop := match i with
  | 0 => q = .pointer (some ⟨lb, f, none⟩)
  | 1 => q = V
  | 2 => q = .pointer (some ⟨xb, 0, none⟩)
  | 3 => q = .pointer (some ⟨cb, 4, none⟩)
  | 4 => q = .int .i64 u
  | 5 => q = .int .i64 d
  | 6 => q = .int .i64 UD
  | 7 => ∃ S : SL, q = .slice S.a S.n S.c ∧ TS B w S (Z k)
  | 8 => ∃ (g : Nat) (S : SL), q = .slice (some ⟨g, 0, none⟩) 1 1 ∧ w0.heap.size ≤ g ∧ Blk 26 w g #[S.v] ∧ TS B w S (Z k)
  | 9 => ∃ S : SL, TG B w q (k + 1) (upd R k S) Z ∧ OB V w0 q
  | 10 => q = .pointer (some ⟨lb, f, none⟩)
  | _ => True

theorem netFU_step {d u UD : Int} {xb cb lb f k B : Nat} {V : Value} {R : Nat → SL} {Z : Nat → List Int} {w0 : World} {i : Nat} {q : Value} {w w' : World} (h : netFU d u UD xb cb lb f k B V R Z w0 i q w) (k46 : Keeps 46 w w') (k26 : Keeps 26 w w') : netFU d u UD xb cb lb f k B V R Z w0 i q w' := by
  unfold netFU at h ⊢
  split
  · exact h
  · exact h
  · exact h
  · exact h
  · exact h
  · exact h
  · exact h
  · obtain ⟨S, e1, e2⟩ := h
    exact ⟨S, e1, e2.step k46⟩
  · obtain ⟨g, S, e1, e2, e3, e4⟩ := h
    exact ⟨g, S, e1, e2, k26.blk e3, e4.step k46⟩
  · obtain ⟨S, e1, e2⟩ := h
    exact ⟨S, e1.step k46 k26, e2⟩
  · exact h
  · trivial

set_option maxHeartbeats 2000000 in
theorem net_regionU {id : Nat} {ops : Array Oper} {Q : Exit → Act → World → Prop} {a0 : Act} {w0 : World} (d h l v u x t n : Int) (b f xb cb sb lb N K k B : Nat) (ws : List Int) (cnt : Nat → Nat) (cs : Array Value) (Va : Option Addr) (Vn Vc : Nat) (R : Nat → SL) (Z : Nat → List Int) (WR : World) (hB : lowB ops = true) (hsz : ops.size = 12)
    (o0 : OpAt ops 0 (some b) (.fieldAddr 59 (.tmp 10) f) []) (o1 : OpAt ops 1 (some (b + 1)) (.load 57 (.tmp b)) [0]) (o2 : OpAt ops 2 (some (b + 2)) (.move (.tmp 7)) []) (o3 : OpAt ops 3 (some (b + 3)) (.fieldAddr 23 (.tmp 2) 4) []) (o4 : OpAt ops 4 (some (b + 4)) (.load 3 (.tmp (b + 3))) [3]) (o5 : OpAt ops 5 (some (b + 5)) (.move (.tmp 6)) []) (o6 : OpAt ops 6 (some (b + 6)) (.binOp .mul 3 (.tmp (b + 4)) (.tmp (b + 5)) 3) [4, 5])
    (o7 : OpAt ops 7 (some (b + 7)) (.call { callee := .value (.func 55), args := #[.tmp (b + 2), .tmp (b + 6)], argTypes := #[79, 3] }) [2, 6]) (o8 : OpAt ops 8 (some (b + 8)) (.buildSlice 57 1 #[(0, .tmp (b + 7))]) [7]) (o9 : OpAt ops 9 (some (b + 9)) (.call { callee := .builtin .append, args := #[.tmp (b + 1), .tmp (b + 8)], argTypes := #[57, 57] }) [1, 8])
    (o10 : OpAt ops 10 (some (b + 10)) (.fieldAddr 59 (.tmp 10) f) []) (o11 : OpAt ops 11 none (.store 57 (.tmp (b + 10)) (.tmp (b + 9))) [9, 10])
    (hmul : ∀ w, (binOp .mul 3 (.int .i64 u) (.int .i64 d)).run Try.prog w = .ok (.int .i64 (cnt K : Int)) w) (hb10 : 10 < b) (hs : b + 11 ≤ a0.tmps.size) (hf : f < 9) (q : Blk 23 WR cb #[.int .i64 d, .int .i64 h, .int .i64 l, .int .i64 v, .int .i64 u, .int .i64 x, .int .i64 t, .int .i64 n]) (h2 : a0.tmps.getD 2 undef = .pointer (some ⟨cb, 0, none⟩)) (h7 : a0.tmps.getD 7 undef = .pointer (some ⟨xb, 0, none⟩)) (h6 : a0.tmps.getD 6 undef = .int .i64 d) (h10 : a0.tmps.getD 10 undef = .pointer (some ⟨lb, 0, none⟩))
    (hWR : Only xb WR w0) (hc : CutAt w0 xb sb N ws (offs cnt K)) (hfit : offs cnt (K + 1) ≤ N) (hN : N ≤ 100000) (hsb : sb ≠ xb) (hcx : cb ≠ xb) (hxl : xb < WR.heap.size) (hsl : sb < WR.heap.size) (hlb : WR.heap.size ≤ lb) (hBW : WR.heap.size ≤ B) (hBl : B ≤ w0.heap.size)
    (ql : Blk 59 w0 lb cs) (hcs : cs[f]? = some (.slice Va Vn Vc)) (hT : TG B w0 (.slice Va Vn Vc) k R Z) (hZ : Z k = seg cnt ws K) (hk : k ≤ 1000)
    (fin : ∀ a w v' S, a.tmps.size = a0.tmps.size → a.defers = a0.defers → (∀ s, s < b ∨ b + 11 ≤ s → a.tmps.getD s undef = a0.tmps.getD s undef) → Only xb WR w → CutAt w xb sb N ws (offs cnt (K + 1)) → Blk 59 w lb (cs.setIfInBounds f v') → TG B w v' (k + 1) (upd R k S) Z → OB (.slice Va Vn Vc) w0 v' → Keeps 46 w0 w → KeepsBut 26 (Value.slice Va Vn Vc).ownBlock w0 w → w0.heap.size ≤ w.heap.size → Q .normal a w) : (Code.region id ops true).wp Try.prog Q a0 w0 := by
  have hrun : ∀ args w, (callFunc 55 args).run Try.prog w = .ok (.enter 55 args) w := enters Try.func55 (by kernel_rfl) rfl
  obtain ⟨V, eV⟩ : ∃ V : Value, Value.slice Va Vn Vc = V := ⟨_, rfl⟩
  have hVlt : ∀ g, V.ownBlock = some g → B ≤ g ∧ g < w0.heap.size := fun g hg => hT.own.lt g (by rw [eV]; exact hg)
  refine wp_region_inv (by kernel_rfl) hB (Inv 12 (netD b) a0 (fun l _ w => NetR xb sb lb f N K k B ws cnt cs V R Z WR w0 l w) (fun _ => netFU d u (cnt K : Int) xb cb lb f k B V R Z w0)) (Inv.start ⟨hWR.drew_, by obtain ⟨y, c, q1, q2, q3, q4⟩ := hc; exact ⟨y, c, q1, q2, ⟨q3.len, q3.max, q3.wf, q3.some_, q3.cell⟩, q4⟩, fun _ => by rw [← eV]; exact hT.step (fun _ _ _ e => e) (fun _ _ _ e => e), fun _ => ql, (fun e => by cases e), fun _ _ _ e => e, fun _ _ _ _ e => e, (fun e => by cases e), (fun e => by cases e), Nat.le_refl _⟩) ?_ ?_
  · intro l' i o a w ho hl hdep hI
    have hi : i < 12 := by rw [← hsz]; exact (Array.getElem?_eq_some_iff.1 ho).1
    have hR := hI.world
    have hsB := hR.size
    have inj : ∀ d, netD b i = some d → ∀ j d', j < 12 → netD b j = some d' → j ≠ i → d' ≠ d := fun d hd j d' hj hd' hne e => hne (netD_inj b j hj i hi d (by rw [hd', e]) hd)
    have ev : ∀ (s : Nat), a.eval (.tmp s) = a.tmps.getD s undef := fun _ => rfl
    have ke : ∀ s, s < b → a.eval (.tmp s) = a0.tmps.getD s undef := fun s hs => hI.kept s fun i _ => netD_low hs i
    have qc : Blk 23 w cb #[.int .i64 d, .int .i64 h, .int .i64 l, .int .i64 v, .int .i64 u, .int .i64 x, .int .i64 t, .int .i64 n] := q.only hR.only hcx
    have l9 : i ≠ 9 → (l' 9 || 9 == i) = l' 9 := fun h => by rw [show (9 == i) = false by simp; omega, Bool.or_false]
    have l7 : i ≠ 7 → (l' 7 || 7 == i) = l' 7 := fun h => by rw [show (7 == i) = false by simp; omega, Bool.or_false]
    have l11 : i ≠ 11 → (l' 11 || 11 == i) = l' 11 := fun h => by rw [show (11 == i) = false by simp; omega, Bool.or_false]
    have newW : ∀ {d' v' w'}, netD b i = some d' → d' < b + 11 → i ≠ 7 → i ≠ 9 → i ≠ 11 → Below w.heap.size w w' → netFU d u (cnt K : Int) xb cb lb f k B V R Z w0 i v' w' → Inv 12 (netD b) a0 (fun l _ w => NetR xb sb lb f N K k B ws cnt cs V R Z WR w0 l w) (fun _ => netFU d u (cnt K : Int) xb cb lb f k B V R Z w0) (fun j => l' j || j == i) (a.put (some d') v') w' := fun hD hd n7 n9 n11 hw hF => hI.put hi hD (by omega) (inj _ hD) (hR.step (Keeps.of_below hw) (Keeps.of_below hw) (Keeps.of_below hw) (Only.of_below hw) (by simp only [l7 n7]; exact hR.cut.below hw) (l9 n9) (l11 n11) (fun h => by simp [h])) hF fun j u _ _ _ hf => netFU_step hf (Keeps.of_below hw) (Keeps.of_below hw)
    have pure_ : ∀ {d' v'}, netD b i = some d' → d' < b + 11 → i ≠ 7 → i ≠ 9 → i ≠ 11 → netFU d u (cnt K : Int) xb cb lb f k B V R Z w0 i v' w → Inv 12 (netD b) a0 (fun l _ w => NetR xb sb lb f N K k B ws cnt cs V R Z WR w0 l w) (fun _ => netFU d u (cnt K : Int) xb cb lb f k B V R Z w0) (fun j => l' j || j == i) (a.put (some d') v') w := fun hD hd n7 n9 n11 hF => newW hD hd n7 n9 n11 (Below.refl _ _) hF
    have VAL : ∀ j, j < 11 → l' j = true → netFU d u (cnt K : Int) xb cb lb f k B V R Z w0 j (a.tmps.getD (b + j) undef) w := fun j hj h => hI.val j (b + j) (by omega) (by unfold netD; rw [if_pos hj]) h
    rcases (show i = 0 ∨ i = 1 ∨ i = 2 ∨ i = 3 ∨ i = 4 ∨ i = 5 ∨ i = 6 ∨ i = 7 ∨ i = 8 ∨ i = 9 ∨ i = 10 ∨ i = 11 by omega) with rfl | rfl | rfl | rfl | rfl | rfl | rfl | rfl | rfl | rfl | rfl | rfl
    · obtain ⟨o', e1, e2, e3, e4, e5⟩ := o0
      obtain rfl := Option.some.inj (ho.symm.trans e1)
      have dp := dep_of (ops := ops) e5 hdep
      refine wpOp_value (v := .pointer (some ⟨lb, f, none⟩)) (w' := w) ho e4 ?_ (by rw [e2]; exact pure_ rfl (by omega) (by decide) (by decide) (by decide) rfl)
      simp [execOp, e3, ke 10 (by omega), h10, run_field lb f hf]
    · obtain ⟨o', e1, e2, e3, e4, e5⟩ := o1
      obtain rfl := Option.some.inj (ho.symm.trans e1)
      have dp := dep_of (ops := ops) e5 hdep
      have ev1 : a.tmps.getD (b + 0) undef = .pointer (some ⟨lb, f, none⟩) := VAL 0 (by decide) (dp 0 (by decide))
      have n11 : l' 11 = false := by
        cases h11 : l' 11 with
        | false => rfl
        | true => have := hR.d9 (hR.d11 h11); rw [hl] at this; cases this
      have cV := (hR.pre n11).cell f hcs
      refine wpOp_value (v := .slice Va Vn Vc) (w' := w) ho e4 ?_ (by rw [e2]; exact pure_ rfl (by omega) (by decide) (by decide) (by decide) eV)
      simp only [Nat.add_zero] at ev1
      simp [execOp, e3, ev, ev1, run_load57 cV]
    · obtain ⟨o', e1, e2, e3, e4, e5⟩ := o2
      obtain rfl := Option.some.inj (ho.symm.trans e1)
      have dp := dep_of (ops := ops) e5 hdep
      refine wpOp_value (v := .pointer (some ⟨xb, 0, none⟩)) (w' := w) ho e4 ?_ (by rw [e2]; exact pure_ rfl (by omega) (by decide) (by decide) (by decide) rfl)
      simp [execOp, e3, ke 7 (by omega), h7]
    · obtain ⟨o', e1, e2, e3, e4, e5⟩ := o3
      obtain rfl := Option.some.inj (ho.symm.trans e1)
      have dp := dep_of (ops := ops) e5 hdep
      refine wpOp_value (v := .pointer (some ⟨cb, 4, none⟩)) (w' := w) ho e4 ?_ (by rw [e2]; exact pure_ rfl (by omega) (by decide) (by decide) (by decide) rfl)
      simp [execOp, e3, ke 2 (by omega), h2, (run_cfg4 qc).1]
    · obtain ⟨o', e1, e2, e3, e4, e5⟩ := o4
      obtain rfl := Option.some.inj (ho.symm.trans e1)
      have dp := dep_of (ops := ops) e5 hdep
      have ev1 : a.tmps.getD (b + 3) undef = .pointer (some ⟨cb, 4, none⟩) := VAL 3 (by decide) (dp 3 (by decide))
      refine wpOp_value (v := .int .i64 u) (w' := w) ho e4 ?_ (by rw [e2]; exact pure_ rfl (by omega) (by decide) (by decide) (by decide) rfl)
      simp [execOp, e3, ev, ev1, (run_cfg4 qc).2]
    · obtain ⟨o', e1, e2, e3, e4, e5⟩ := o5
      obtain rfl := Option.some.inj (ho.symm.trans e1)
      have dp := dep_of (ops := ops) e5 hdep
      refine wpOp_value (v := .int .i64 d) (w' := w) ho e4 ?_ (by rw [e2]; exact pure_ rfl (by omega) (by decide) (by decide) (by decide) rfl)
      simp [execOp, e3, ke 6 (by omega), h6]
    · obtain ⟨o', e1, e2, e3, e4, e5⟩ := o6
      obtain rfl := Option.some.inj (ho.symm.trans e1)
      have dp := dep_of (ops := ops) e5 hdep
      have ev1 : a.tmps.getD (b + 4) undef = .int .i64 u := VAL 4 (by decide) (dp 4 (by decide))
      have ev2 : a.tmps.getD (b + 5) undef = .int .i64 d := VAL 5 (by decide) (dp 5 (by decide))
      refine wpOp_value (v := .int .i64 (cnt K : Int)) (w' := w) ho e4 ?_ (by rw [e2]; exact pure_ rfl (by omega) (by decide) (by decide) (by decide) rfl)
      simp [execOp, e3, ev, ev1, ev2, hmul, eqGuard]
    · obtain ⟨o', e1, e2, e3, e4, e5⟩ := o7
      obtain rfl := Option.some.inj (ho.symm.trans e1)
      have dp := dep_of (ops := ops) e5 hdep
      have ev1 : a.tmps.getD (b + 2) undef = .pointer (some ⟨xb, 0, none⟩) := VAL 2 (by decide) (dp 2 (by decide))
      have ev2 : a.tmps.getD (b + 6) undef = .int .i64 (cnt K : Int) := VAL 6 (by decide) (dp 6 (by decide))
      have hcut' : CutAt w xb sb N ws (offs cnt K) := by have := hR.cut; rw [hl] at this; exact this
      refine wpOp_call (f := 55) (args := #[.pointer (some ⟨xb, 0, none⟩), .int .i64 (cnt K : Int)]) ho e4 ?_ ((next_seg (k := K) hcut' hfit hN hsb).mono fun e w' hh => ?_)
      · simp [execOp, e3, resolve, invoke, ev, ev1, ev2, Deferred.ofValue, hrun, show a.eval (.func 55) = .func (.func 55) #[] #[] from rfl]
      · obtain ⟨s, g1, g2, g3, g4⟩ := hh
        refine ⟨_, g1, ?_⟩
        rw [e2]
        refine hI.put hi rfl (by omega) (inj _ rfl) (hR.step (hcut'.keeps g4 (by decide)) (hcut'.keeps g4 (by decide)) (hcut'.keeps g4 (by decide)) g4 (by simpa using g3) (l9 (by decide)) (l11 (by decide)) (fun h => by simp [h])) ⟨s, rfl, ?_⟩ fun j u' _ _ _ hf => netFU_step hf (hcut'.keeps g4 (by decide)) (hcut'.keeps g4 (by decide))
        rw [hZ]
        exact g2.le (Nat.le_trans hBl hsB)
    · obtain ⟨o', e1, e2, e3, e4, e5⟩ := o8
      obtain rfl := Option.some.inj (ho.symm.trans e1)
      have dp := dep_of (ops := ops) e5 hdep
      obtain ⟨S, ev1, ts⟩ := VAL 7 (by decide) (dp 7 (by decide))
      refine wpOp_value (v := .slice (some ⟨w.heap.size, 0, none⟩) 1 1) (w' := w.alloc (.cells #[.slice S.a S.n S.c] 26)) ho e4 ?_ (by rw [e2]; exact newW rfl (by omega) (by decide) (by decide) (by decide) (below_new (Below.refl _ _) _) ⟨_, S, rfl, hsB, Blk.new 26 w _, ts.below (below_new (Below.refl _ _) _)⟩)
      simp [execOp, e3, ev, ev1, run_build57]
    · obtain ⟨o', e1, e2, e3, e4, e5⟩ := o9
      obtain rfl := Option.some.inj (ho.symm.trans e1)
      have dp := dep_of (ops := ops) e5 hdep
      have ev1 : a.tmps.getD (b + 1) undef = V := VAL 1 (by decide) (dp 1 (by decide))
      obtain ⟨g, S, ev2, hgB, hgq, ts⟩ := VAL 8 (by decide) (dp 8 (by decide))
      have n11 : l' 11 = false := by
        cases h11 : l' 11 with
        | false => rfl
        | true => have := hR.d11 h11; rw [hl] at this; cases this
      have tg := hR.tg hl
      obtain ⟨i0, hi0, hz0, hz1, hz2⟩ := i26'
      obtain ⟨v', w', hrn, own', hgr, _, hob⟩ := run_append_own_at (P := Try.prog) w B 57 o.type 26 i0 nilS 1 24 Try.underlying57 hi0 hz0 hz1 hz2 rfl (by decide) V k _ tg.own ⟨g, 0, none⟩ 1 1 [S.v] rfl (fun j u hj => by
        match j, hj with
        | 0, hj => simp at hj; subst hj; simpa [Addr.add] using hgq.cell 0 rfl) (fun u hu => by simp at hu; subst hu; rfl) (by unfold maxLen; omega) (by omega) (Nat.le_trans hBl hsB)
      have k46 : Keeps 46 w w' := Keeps.of_own hgr tg.own (by decide)
      have k59 : Keeps 59 w w' := Keeps.of_own hgr tg.own (by decide)
      have kb : KeepsBut 26 V.ownBlock w w' := KeepsBut.of_grown hgr
      have hOB : OB V w0 v' := by
        rcases hob with h | h
        · exact .inl h
        · exact .inr ⟨_, hsB, h⟩
      have hTG : TG B w' v' (k + 1) (upd R k S) Z := by
        refine ⟨?_, fun j hj => ?_⟩
        · rw [cellsG_succ, upd_same, cellsG_congr (R' := R) (fun j hj => upd_other R k S (by omega))]
          exact own'
        · by_cases e : j = k
          · subst e
            rw [upd_same]
            exact ts.step k46
          · rw [upd_other R k S e]
            exact (tg.row j (by omega)).step k46
      refine wpOp_value (v := v') (w' := w') ho e4 ?_ ?_
      · simp only [execOp, e3, resolve, invoke, builtin, Sem.run_bind, Sem.run_pure, Result.andThen_ok, List.map_toArray, List.map_cons, List.map_nil, ev, ev1, ev2, hrn]
      · rw [e2]
        refine hI.put hi rfl (by omega) (inj _ rfl) ⟨hR.only.grown hgr (fun g hg => Nat.le_trans hBW (hVlt g hg).1), ?_, (fun h => by simp at h), fun _ => k59.blk (hR.pre n11), (fun h => by simp [n11] at h), hR.k46.trans k46, hR.k26.trans kb, (fun h => by simp), (fun h => by simp [dp 1 (by decide)]), Nat.le_trans hsB hgr.size⟩ ⟨S, hTG, hOB⟩ fun j u' hj hlj hne hf => ?_
        · simp only [l7 (show (9 : Nat) ≠ 7 by decide)]
          exact hR.cut.grown hgr (fun e => by have := (hVlt _ e).1; omega) (fun e => by have := (hVlt _ e).1; omega)
        · rcases (show j = 0 ∨ j = 1 ∨ j = 2 ∨ j = 3 ∨ j = 4 ∨ j = 5 ∨ j = 6 ∨ j = 7 ∨ j = 8 ∨ j = 10 ∨ j = 11 by omega) with rfl | rfl | rfl | rfl | rfl | rfl | rfl | rfl | rfl | rfl | rfl
          · exact hf
          · exact hf
          · exact hf
          · exact hf
          · exact hf
          · exact hf
          · exact hf
          · obtain ⟨S', f1, f2⟩ := hf
            exact ⟨S', f1, f2.step k46⟩
          · obtain ⟨g', S', f1, f2, f3, f4⟩ := hf
            exact ⟨g', S', f1, f2, kb g' _ (0, 0) (fun e => by have := (hVlt _ e.symm).2; omega) f3, f4.step k46⟩
          · exact hf
          · trivial
    · obtain ⟨o', e1, e2, e3, e4, e5⟩ := o10
      obtain rfl := Option.some.inj (ho.symm.trans e1)
      have dp := dep_of (ops := ops) e5 hdep
      refine wpOp_value (v := .pointer (some ⟨lb, f, none⟩)) (w' := w) ho e4 ?_ (by rw [e2]; exact pure_ rfl (by omega) (by decide) (by decide) (by decide) rfl)
      simp [execOp, e3, ke 10 (by omega), h10, run_field lb f hf]
    · obtain ⟨o', e1, e2, e3, e4, e5⟩ := o11
      obtain rfl := Option.some.inj (ho.symm.trans e1)
      have dp := dep_of (ops := ops) e5 hdep
      obtain ⟨S, tg, hOB⟩ := VAL 9 (by decide) (dp 9 (by decide))
      have ev2 : a.tmps.getD (b + 10) undef = .pointer (some ⟨lb, f, none⟩) := VAL 10 (by decide) (dp 10 (by decide))
      obtain ⟨sa, sn, sc, ev1⟩ := tg.slice
      have qp := hR.pre hl
      have hrn := run_store57 (a := sa) (n := sn) (c := sc) (qp.cell f hcs) (qp.open_ f)
      have on : Only lb w (w.setCell ⟨lb, f, none⟩ (.slice sa sn sc)) := Only.set _ _ _ _
      have k46 : Keeps 46 w (w.setCell ⟨lb, f, none⟩ (.slice sa sn sc)) := Keeps.of_only on qp (by decide)
      have k26 : Keeps 26 w (w.setCell ⟨lb, f, none⟩ (.slice sa sn sc)) := Keeps.of_only on qp (by decide)
      refine wpOp_skip (w' := w.setCell ⟨lb, f, none⟩ (.slice sa sn sc)) ho e4 ?_ ?_
      · simp [execOp, e3, ev, ev1, ev2, hrn]
      · rw [e2]
        refine hI.none_ rfl ⟨hR.only.new hlb on, ?_, (fun h => by simp [dp 9 (by decide)] at h), (fun h => by simp at h), fun _ => ⟨_, S, qp.set f (.slice sa sn sc), ?_, ?_⟩, hR.k46.trans k46, hR.k26.then_ k26, (fun h => by simp [dp 9 (by decide)]), (fun h => by simp [hR.d9 (dp 9 (by decide))]), Nat.le_trans hsB on.size⟩ fun j u' hj hlj hne hf => netFU_step hf k46 k26
        · simp only [l7 (show (11 : Nat) ≠ 7 by decide)]
          exact hR.cut.only on (by omega) (by omega)
        · rw [ev1] at tg
          exact tg.step k46 k26
        · rw [ev1] at hOB
          exact hOB
  · intro l' a w hall hI
    have hR := hI.world
    obtain ⟨v', S, q1, q2, q3⟩ := hR.post (hall 11 (by omega))
    have hcut := hR.cut
    rw [if_pos (hall 7 (by omega))] at hcut
    exact fin a w v' S hI.size hI.defers (fun s hs' => hI.kept s fun i hi => by
      rcases hs' with h | h
      · exact netD_low h i
      · intro e
        unfold netD at e
        split at e
        · simp at e; omega
        · cases e) hR.only hcut q1 q2 (by rw [eV]; exact q3) hR.k46 (by rw [eV]; exact hR.k26) hR.size

def netFD (d u UD : Int) (xb cb lb f k B : Nat) (V : Value) (R : Nat → SL) (Z : Nat → List Int) (w0 : World) (i : Nat) (q : Value) (w : World) : Prop := match i with
  | 0 => q = .pointer (some ⟨lb, f, none⟩)
  | 1 => q = V
  | 2 => q = .pointer (some ⟨xb, 0, none⟩)
  | 3 => q = .int .i64 d
  | 4 => q = .pointer (some ⟨cb, 4, none⟩)
  | 5 => q = .int .i64 u
  | 6 => q = .int .i64 UD
  | 7 => ∃ S : SL, q = .slice S.a S.n S.c ∧ TS B w S (Z k)
  | 8 => ∃ (g : Nat) (S : SL), q = .slice (some ⟨g, 0, none⟩) 1 1 ∧ w0.heap.size ≤ g ∧ Blk 26 w g #[S.v] ∧ TS B w S (Z k)
  | 9 => ∃ S : SL, TG B w q (k + 1) (upd R k S) Z ∧ OB V w0 q
  | 10 => q = .pointer (some ⟨lb, f, none⟩)
  | _ => True

theorem netFD_step {d u UD : Int} {xb cb lb f k B : Nat} {V : Value} {R : Nat → SL} {Z : Nat → List Int} {w0 : World} {i : Nat} {q : Value} {w w' : World} (h : netFD d u UD xb cb lb f k B V R Z w0 i q w) (k46 : Keeps 46 w w') (k26 : Keeps 26 w w') : netFD d u UD xb cb lb f k B V R Z w0 i q w' := by
  unfold netFD at h ⊢
  split
  · exact h
  · exact h
  · exact h
  · exact h
  · exact h
  · exact h
  · exact h
  · obtain ⟨S, e1, e2⟩ := h
    exact ⟨S, e1, e2.step k46⟩
  · obtain ⟨g, S, e1, e2, e3, e4⟩ := h
    exact ⟨g, S, e1, e2, k26.blk e3, e4.step k46⟩
  · obtain ⟨S, e1, e2⟩ := h
    exact ⟨S, e1.step k46 k26, e2⟩
  · exact h
  · trivial

set_option maxHeartbeats 2000000 in
theorem net_regionD {id : Nat} {ops : Array Oper} {Q : Exit → Act → World → Prop} {a0 : Act} {w0 : World} (d h l v u x t n : Int) (b f xb cb sb lb N K k B : Nat) (ws : List Int) (cnt : Nat → Nat) (cs : Array Value) (Va : Option Addr) (Vn Vc : Nat) (R : Nat → SL) (Z : Nat → List Int) (WR : World) (hB : lowB ops = true) (hsz : ops.size = 12)
    (o0 : OpAt ops 0 (some b) (.fieldAddr 59 (.tmp 10) f) []) (o1 : OpAt ops 1 (some (b + 1)) (.load 57 (.tmp b)) [0]) (o2 : OpAt ops 2 (some (b + 2)) (.move (.tmp 7)) []) (o3 : OpAt ops 3 (some (b + 3)) (.move (.tmp 6)) []) (o4 : OpAt ops 4 (some (b + 4)) (.fieldAddr 23 (.tmp 2) 4) []) (o5 : OpAt ops 5 (some (b + 5)) (.load 3 (.tmp (b + 4))) [4]) (o6 : OpAt ops 6 (some (b + 6)) (.binOp .mul 3 (.tmp (b + 3)) (.tmp (b + 5)) 3) [3, 5])
    (o7 : OpAt ops 7 (some (b + 7)) (.call { callee := .value (.func 55), args := #[.tmp (b + 2), .tmp (b + 6)], argTypes := #[79, 3] }) [2, 6]) (o8 : OpAt ops 8 (some (b + 8)) (.buildSlice 57 1 #[(0, .tmp (b + 7))]) [7]) (o9 : OpAt ops 9 (some (b + 9)) (.call { callee := .builtin .append, args := #[.tmp (b + 1), .tmp (b + 8)], argTypes := #[57, 57] }) [1, 8])
    (o10 : OpAt ops 10 (some (b + 10)) (.fieldAddr 59 (.tmp 10) f) []) (o11 : OpAt ops 11 none (.store 57 (.tmp (b + 10)) (.tmp (b + 9))) [9, 10])
    (hmul : ∀ w, (binOp .mul 3 (.int .i64 d) (.int .i64 u)).run Try.prog w = .ok (.int .i64 (cnt K : Int)) w) (hb10 : 10 < b) (hs : b + 11 ≤ a0.tmps.size) (hf : f < 9) (q : Blk 23 WR cb #[.int .i64 d, .int .i64 h, .int .i64 l, .int .i64 v, .int .i64 u, .int .i64 x, .int .i64 t, .int .i64 n]) (h2 : a0.tmps.getD 2 undef = .pointer (some ⟨cb, 0, none⟩)) (h7 : a0.tmps.getD 7 undef = .pointer (some ⟨xb, 0, none⟩)) (h6 : a0.tmps.getD 6 undef = .int .i64 d) (h10 : a0.tmps.getD 10 undef = .pointer (some ⟨lb, 0, none⟩))
    (hWR : Only xb WR w0) (hc : CutAt w0 xb sb N ws (offs cnt K)) (hfit : offs cnt (K + 1) ≤ N) (hN : N ≤ 100000) (hsb : sb ≠ xb) (hcx : cb ≠ xb) (hxl : xb < WR.heap.size) (hsl : sb < WR.heap.size) (hlb : WR.heap.size ≤ lb) (hBW : WR.heap.size ≤ B) (hBl : B ≤ w0.heap.size)
    (ql : Blk 59 w0 lb cs) (hcs : cs[f]? = some (.slice Va Vn Vc)) (hT : TG B w0 (.slice Va Vn Vc) k R Z) (hZ : Z k = seg cnt ws K) (hk : k ≤ 1000)
    (fin : ∀ a w v' S, a.tmps.size = a0.tmps.size → a.defers = a0.defers → (∀ s, s < b ∨ b + 11 ≤ s → a.tmps.getD s undef = a0.tmps.getD s undef) → Only xb WR w → CutAt w xb sb N ws (offs cnt (K + 1)) → Blk 59 w lb (cs.setIfInBounds f v') → TG B w v' (k + 1) (upd R k S) Z → OB (.slice Va Vn Vc) w0 v' → Keeps 46 w0 w → KeepsBut 26 (Value.slice Va Vn Vc).ownBlock w0 w → w0.heap.size ≤ w.heap.size → Q .normal a w) : (Code.region id ops true).wp Try.prog Q a0 w0 := by
  have hrun : ∀ args w, (callFunc 55 args).run Try.prog w = .ok (.enter 55 args) w := enters Try.func55 (by kernel_rfl) rfl
  obtain ⟨V, eV⟩ : ∃ V : Value, Value.slice Va Vn Vc = V := ⟨_, rfl⟩
  have hVlt : ∀ g, V.ownBlock = some g → B ≤ g ∧ g < w0.heap.size := fun g hg => hT.own.lt g (by rw [eV]; exact hg)
  refine wp_region_inv (by kernel_rfl) hB (Inv 12 (netD b) a0 (fun l _ w => NetR xb sb lb f N K k B ws cnt cs V R Z WR w0 l w) (fun _ => netFD d u (cnt K : Int) xb cb lb f k B V R Z w0)) (Inv.start ⟨hWR.drew_, by obtain ⟨y, c, q1, q2, q3, q4⟩ := hc; exact ⟨y, c, q1, q2, ⟨q3.len, q3.max, q3.wf, q3.some_, q3.cell⟩, q4⟩, fun _ => by rw [← eV]; exact hT.step (fun _ _ _ e => e) (fun _ _ _ e => e), fun _ => ql, (fun e => by cases e), fun _ _ _ e => e, fun _ _ _ _ e => e, (fun e => by cases e), (fun e => by cases e), Nat.le_refl _⟩) ?_ ?_
  · intro l' i o a w ho hl hdep hI
    have hi : i < 12 := by rw [← hsz]; exact (Array.getElem?_eq_some_iff.1 ho).1
    have hR := hI.world
    have hsB := hR.size
    have inj : ∀ d, netD b i = some d → ∀ j d', j < 12 → netD b j = some d' → j ≠ i → d' ≠ d := fun d hd j d' hj hd' hne e => hne (netD_inj b j hj i hi d (by rw [hd', e]) hd)
    have ev : ∀ (s : Nat), a.eval (.tmp s) = a.tmps.getD s undef := fun _ => rfl
    have ke : ∀ s, s < b → a.eval (.tmp s) = a0.tmps.getD s undef := fun s hs => hI.kept s fun i _ => netD_low hs i
    have qc : Blk 23 w cb #[.int .i64 d, .int .i64 h, .int .i64 l, .int .i64 v, .int .i64 u, .int .i64 x, .int .i64 t, .int .i64 n] := q.only hR.only hcx
    have l9 : i ≠ 9 → (l' 9 || 9 == i) = l' 9 := fun h => by rw [show (9 == i) = false by simp; omega, Bool.or_false]
    have l7 : i ≠ 7 → (l' 7 || 7 == i) = l' 7 := fun h => by rw [show (7 == i) = false by simp; omega, Bool.or_false]
    have l11 : i ≠ 11 → (l' 11 || 11 == i) = l' 11 := fun h => by rw [show (11 == i) = false by simp; omega, Bool.or_false]
    have newW : ∀ {d' v' w'}, netD b i = some d' → d' < b + 11 → i ≠ 7 → i ≠ 9 → i ≠ 11 → Below w.heap.size w w' → netFD d u (cnt K : Int) xb cb lb f k B V R Z w0 i v' w' → Inv 12 (netD b) a0 (fun l _ w => NetR xb sb lb f N K k B ws cnt cs V R Z WR w0 l w) (fun _ => netFD d u (cnt K : Int) xb cb lb f k B V R Z w0) (fun j => l' j || j == i) (a.put (some d') v') w' := fun hD hd n7 n9 n11 hw hF => hI.put hi hD (by omega) (inj _ hD) (hR.step (Keeps.of_below hw) (Keeps.of_below hw) (Keeps.of_below hw) (Only.of_below hw) (by simp only [l7 n7]; exact hR.cut.below hw) (l9 n9) (l11 n11) (fun h => by simp [h])) hF fun j u _ _ _ hf => netFD_step hf (Keeps.of_below hw) (Keeps.of_below hw)
    have pure_ : ∀ {d' v'}, netD b i = some d' → d' < b + 11 → i ≠ 7 → i ≠ 9 → i ≠ 11 → netFD d u (cnt K : Int) xb cb lb f k B V R Z w0 i v' w → Inv 12 (netD b) a0 (fun l _ w => NetR xb sb lb f N K k B ws cnt cs V R Z WR w0 l w) (fun _ => netFD d u (cnt K : Int) xb cb lb f k B V R Z w0) (fun j => l' j || j == i) (a.put (some d') v') w := fun hD hd n7 n9 n11 hF => newW hD hd n7 n9 n11 (Below.refl _ _) hF
    have VAL : ∀ j, j < 11 → l' j = true → netFD d u (cnt K : Int) xb cb lb f k B V R Z w0 j (a.tmps.getD (b + j) undef) w := fun j hj h => hI.val j (b + j) (by omega) (by unfold netD; rw [if_pos hj]) h
    rcases (show i = 0 ∨ i = 1 ∨ i = 2 ∨ i = 3 ∨ i = 4 ∨ i = 5 ∨ i = 6 ∨ i = 7 ∨ i = 8 ∨ i = 9 ∨ i = 10 ∨ i = 11 by omega) with rfl | rfl | rfl | rfl | rfl | rfl | rfl | rfl | rfl | rfl | rfl | rfl
    · obtain ⟨o', e1, e2, e3, e4, e5⟩ := o0
      obtain rfl := Option.some.inj (ho.symm.trans e1)
      have dp := dep_of (ops := ops) e5 hdep
      refine wpOp_value (v := .pointer (some ⟨lb, f, none⟩)) (w' := w) ho e4 ?_ (by rw [e2]; exact pure_ rfl (by omega) (by decide) (by decide) (by decide) rfl)
      simp [execOp, e3, ke 10 (by omega), h10, run_field lb f hf]
    · obtain ⟨o', e1, e2, e3, e4, e5⟩ := o1
      obtain rfl := Option.some.inj (ho.symm.trans e1)
      have dp := dep_of (ops := ops) e5 hdep
      have ev1 : a.tmps.getD (b + 0) undef = .pointer (some ⟨lb, f, none⟩) := VAL 0 (by decide) (dp 0 (by decide))
      have n11 : l' 11 = false := by
        cases h11 : l' 11 with
        | false => rfl
        | true => have := hR.d9 (hR.d11 h11); rw [hl] at this; cases this
      have cV := (hR.pre n11).cell f hcs
      refine wpOp_value (v := .slice Va Vn Vc) (w' := w) ho e4 ?_ (by rw [e2]; exact pure_ rfl (by omega) (by decide) (by decide) (by decide) eV)
      simp only [Nat.add_zero] at ev1
      simp [execOp, e3, ev, ev1, run_load57 cV]
    · obtain ⟨o', e1, e2, e3, e4, e5⟩ := o2
      obtain rfl := Option.some.inj (ho.symm.trans e1)
      have dp := dep_of (ops := ops) e5 hdep
      refine wpOp_value (v := .pointer (some ⟨xb, 0, none⟩)) (w' := w) ho e4 ?_ (by rw [e2]; exact pure_ rfl (by omega) (by decide) (by decide) (by decide) rfl)
      simp [execOp, e3, ke 7 (by omega), h7]
    · obtain ⟨o', e1, e2, e3, e4, e5⟩ := o3
      obtain rfl := Option.some.inj (ho.symm.trans e1)
      have dp := dep_of (ops := ops) e5 hdep
      refine wpOp_value (v := .int .i64 d) (w' := w) ho e4 ?_ (by rw [e2]; exact pure_ rfl (by omega) (by decide) (by decide) (by decide) rfl)
      simp [execOp, e3, ke 6 (by omega), h6]
    · obtain ⟨o', e1, e2, e3, e4, e5⟩ := o4
      obtain rfl := Option.some.inj (ho.symm.trans e1)
      have dp := dep_of (ops := ops) e5 hdep
      refine wpOp_value (v := .pointer (some ⟨cb, 4, none⟩)) (w' := w) ho e4 ?_ (by rw [e2]; exact pure_ rfl (by omega) (by decide) (by decide) (by decide) rfl)
      simp [execOp, e3, ke 2 (by omega), h2, (run_cfg4 qc).1]
    · obtain ⟨o', e1, e2, e3, e4, e5⟩ := o5
      obtain rfl := Option.some.inj (ho.symm.trans e1)
      have dp := dep_of (ops := ops) e5 hdep
      have ev1 : a.tmps.getD (b + 4) undef = .pointer (some ⟨cb, 4, none⟩) := VAL 4 (by decide) (dp 4 (by decide))
      refine wpOp_value (v := .int .i64 u) (w' := w) ho e4 ?_ (by rw [e2]; exact pure_ rfl (by omega) (by decide) (by decide) (by decide) rfl)
      simp [execOp, e3, ev, ev1, (run_cfg4 qc).2]
    · obtain ⟨o', e1, e2, e3, e4, e5⟩ := o6
      obtain rfl := Option.some.inj (ho.symm.trans e1)
      have dp := dep_of (ops := ops) e5 hdep
      have ev1 : a.tmps.getD (b + 3) undef = .int .i64 d := VAL 3 (by decide) (dp 3 (by decide))
      have ev2 : a.tmps.getD (b + 5) undef = .int .i64 u := VAL 5 (by decide) (dp 5 (by decide))
      refine wpOp_value (v := .int .i64 (cnt K : Int)) (w' := w) ho e4 ?_ (by rw [e2]; exact pure_ rfl (by omega) (by decide) (by decide) (by decide) rfl)
      simp [execOp, e3, ev, ev1, ev2, hmul, eqGuard]
    · obtain ⟨o', e1, e2, e3, e4, e5⟩ := o7
      obtain rfl := Option.some.inj (ho.symm.trans e1)
      have dp := dep_of (ops := ops) e5 hdep
      have ev1 : a.tmps.getD (b + 2) undef = .pointer (some ⟨xb, 0, none⟩) := VAL 2 (by decide) (dp 2 (by decide))
      have ev2 : a.tmps.getD (b + 6) undef = .int .i64 (cnt K : Int) := VAL 6 (by decide) (dp 6 (by decide))
      have hcut' : CutAt w xb sb N ws (offs cnt K) := by have := hR.cut; rw [hl] at this; exact this
      refine wpOp_call (f := 55) (args := #[.pointer (some ⟨xb, 0, none⟩), .int .i64 (cnt K : Int)]) ho e4 ?_ ((next_seg (k := K) hcut' hfit hN hsb).mono fun e w' hh => ?_)
      · simp [execOp, e3, resolve, invoke, ev, ev1, ev2, Deferred.ofValue, hrun, show a.eval (.func 55) = .func (.func 55) #[] #[] from rfl]
      · obtain ⟨s, g1, g2, g3, g4⟩ := hh
        refine ⟨_, g1, ?_⟩
        rw [e2]
        refine hI.put hi rfl (by omega) (inj _ rfl) (hR.step (hcut'.keeps g4 (by decide)) (hcut'.keeps g4 (by decide)) (hcut'.keeps g4 (by decide)) g4 (by simpa using g3) (l9 (by decide)) (l11 (by decide)) (fun h => by simp [h])) ⟨s, rfl, ?_⟩ fun j u' _ _ _ hf => netFD_step hf (hcut'.keeps g4 (by decide)) (hcut'.keeps g4 (by decide))
        rw [hZ]
        exact g2.le (Nat.le_trans hBl hsB)
    · obtain ⟨o', e1, e2, e3, e4, e5⟩ := o8
      obtain rfl := Option.some.inj (ho.symm.trans e1)
      have dp := dep_of (ops := ops) e5 hdep
      obtain ⟨S, ev1, ts⟩ := VAL 7 (by decide) (dp 7 (by decide))
      refine wpOp_value (v := .slice (some ⟨w.heap.size, 0, none⟩) 1 1) (w' := w.alloc (.cells #[.slice S.a S.n S.c] 26)) ho e4 ?_ (by rw [e2]; exact newW rfl (by omega) (by decide) (by decide) (by decide) (below_new (Below.refl _ _) _) ⟨_, S, rfl, hsB, Blk.new 26 w _, ts.below (below_new (Below.refl _ _) _)⟩)
      simp [execOp, e3, ev, ev1, run_build57]
    · obtain ⟨o', e1, e2, e3, e4, e5⟩ := o9
      obtain rfl := Option.some.inj (ho.symm.trans e1)
      have dp := dep_of (ops := ops) e5 hdep
      have ev1 : a.tmps.getD (b + 1) undef = V := VAL 1 (by decide) (dp 1 (by decide))
      obtain ⟨g, S, ev2, hgB, hgq, ts⟩ := VAL 8 (by decide) (dp 8 (by decide))
      have n11 : l' 11 = false := by
        cases h11 : l' 11 with
        | false => rfl
        | true => have := hR.d11 h11; rw [hl] at this; cases this
      have tg := hR.tg hl
      obtain ⟨i0, hi0, hz0, hz1, hz2⟩ := i26'
      obtain ⟨v', w', hrn, own', hgr, _, hob⟩ := run_append_own_at (P := Try.prog) w B 57 o.type 26 i0 nilS 1 24 Try.underlying57 hi0 hz0 hz1 hz2 rfl (by decide) V k _ tg.own ⟨g, 0, none⟩ 1 1 [S.v] rfl (fun j u hj => by
        match j, hj with
        | 0, hj => simp at hj; subst hj; simpa [Addr.add] using hgq.cell 0 rfl) (fun u hu => by simp at hu; subst hu; rfl) (by unfold maxLen; omega) (by omega) (Nat.le_trans hBl hsB)
      have k46 : Keeps 46 w w' := Keeps.of_own hgr tg.own (by decide)
      have k59 : Keeps 59 w w' := Keeps.of_own hgr tg.own (by decide)
      have kb : KeepsBut 26 V.ownBlock w w' := KeepsBut.of_grown hgr
      have hOB : OB V w0 v' := by
        rcases hob with h | h
        · exact .inl h
        · exact .inr ⟨_, hsB, h⟩
      have hTG : TG B w' v' (k + 1) (upd R k S) Z := by
        refine ⟨?_, fun j hj => ?_⟩
        · rw [cellsG_succ, upd_same, cellsG_congr (R' := R) (fun j hj => upd_other R k S (by omega))]
          exact own'
        · by_cases e : j = k
          · subst e
            rw [upd_same]
            exact ts.step k46
          · rw [upd_other R k S e]
            exact (tg.row j (by omega)).step k46
      refine wpOp_value (v := v') (w' := w') ho e4 ?_ ?_
      · simp only [execOp, e3, resolve, invoke, builtin, Sem.run_bind, Sem.run_pure, Result.andThen_ok, List.map_toArray, List.map_cons, List.map_nil, ev, ev1, ev2, hrn]
      · rw [e2]
        refine hI.put hi rfl (by omega) (inj _ rfl) ⟨hR.only.grown hgr (fun g hg => Nat.le_trans hBW (hVlt g hg).1), ?_, (fun h => by simp at h), fun _ => k59.blk (hR.pre n11), (fun h => by simp [n11] at h), hR.k46.trans k46, hR.k26.trans kb, (fun h => by simp), (fun h => by simp [dp 1 (by decide)]), Nat.le_trans hsB hgr.size⟩ ⟨S, hTG, hOB⟩ fun j u' hj hlj hne hf => ?_
        · simp only [l7 (show (9 : Nat) ≠ 7 by decide)]
          exact hR.cut.grown hgr (fun e => by have := (hVlt _ e).1; omega) (fun e => by have := (hVlt _ e).1; omega)
        · rcases (show j = 0 ∨ j = 1 ∨ j = 2 ∨ j = 3 ∨ j = 4 ∨ j = 5 ∨ j = 6 ∨ j = 7 ∨ j = 8 ∨ j = 10 ∨ j = 11 by omega) with rfl | rfl | rfl | rfl | rfl | rfl | rfl | rfl | rfl | rfl | rfl
          · exact hf
          · exact hf
          · exact hf
          · exact hf
          · exact hf
          · exact hf
          · exact hf
          · obtain ⟨S', f1, f2⟩ := hf
            exact ⟨S', f1, f2.step k46⟩
          · obtain ⟨g', S', f1, f2, f3, f4⟩ := hf
            exact ⟨g', S', f1, f2, kb g' _ (0, 0) (fun e => by have := (hVlt _ e.symm).2; omega) f3, f4.step k46⟩
          · exact hf
          · trivial
    · obtain ⟨o', e1, e2, e3, e4, e5⟩ := o10
      obtain rfl := Option.some.inj (ho.symm.trans e1)
      have dp := dep_of (ops := ops) e5 hdep
      refine wpOp_value (v := .pointer (some ⟨lb, f, none⟩)) (w' := w) ho e4 ?_ (by rw [e2]; exact pure_ rfl (by omega) (by decide) (by decide) (by decide) rfl)
      simp [execOp, e3, ke 10 (by omega), h10, run_field lb f hf]
    · obtain ⟨o', e1, e2, e3, e4, e5⟩ := o11
      obtain rfl := Option.some.inj (ho.symm.trans e1)
      have dp := dep_of (ops := ops) e5 hdep
      obtain ⟨S, tg, hOB⟩ := VAL 9 (by decide) (dp 9 (by decide))
      have ev2 : a.tmps.getD (b + 10) undef = .pointer (some ⟨lb, f, none⟩) := VAL 10 (by decide) (dp 10 (by decide))
      obtain ⟨sa, sn, sc, ev1⟩ := tg.slice
      have qp := hR.pre hl
      have hrn := run_store57 (a := sa) (n := sn) (c := sc) (qp.cell f hcs) (qp.open_ f)
      have on : Only lb w (w.setCell ⟨lb, f, none⟩ (.slice sa sn sc)) := Only.set _ _ _ _
      have k46 : Keeps 46 w (w.setCell ⟨lb, f, none⟩ (.slice sa sn sc)) := Keeps.of_only on qp (by decide)
      have k26 : Keeps 26 w (w.setCell ⟨lb, f, none⟩ (.slice sa sn sc)) := Keeps.of_only on qp (by decide)
      refine wpOp_skip (w' := w.setCell ⟨lb, f, none⟩ (.slice sa sn sc)) ho e4 ?_ ?_
      · simp [execOp, e3, ev, ev1, ev2, hrn]
      · rw [e2]
        refine hI.none_ rfl ⟨hR.only.new hlb on, ?_, (fun h => by simp [dp 9 (by decide)] at h), (fun h => by simp at h), fun _ => ⟨_, S, qp.set f (.slice sa sn sc), ?_, ?_⟩, hR.k46.trans k46, hR.k26.then_ k26, (fun h => by simp [dp 9 (by decide)]), (fun h => by simp [hR.d9 (dp 9 (by decide))]), Nat.le_trans hsB on.size⟩ fun j u' hj hlj hne hf => netFD_step hf k46 k26
        · simp only [l7 (show (11 : Nat) ≠ 7 by decide)]
          exact hR.cut.only on (by omega) (by omega)
        · rw [ev1] at tg
          exact tg.step k46 k26
        · rw [ev1] at hOB
          exact hOB
  · intro l' a w hall hI
    have hR := hI.world
    obtain ⟨v', S, q1, q2, q3⟩ := hR.post (hall 11 (by omega))
    have hcut := hR.cut
    rw [if_pos (hall 7 (by omega))] at hcut
    exact fin a w v' S hI.size hI.defers (fun s hs' => hI.kept s fun i hi => by
      rcases hs' with h | h
      · exact netD_low h i
      · intro e
        unfold netD at e
        split at e
        · simp at e; omega
        · cases e) hR.only hcut q1 q2 (by rw [eV]; exact q3) hR.k46 (by rw [eV]; exact hR.k26) hR.size

end Go.Proofs.Ytjbeloljbjfibaa
